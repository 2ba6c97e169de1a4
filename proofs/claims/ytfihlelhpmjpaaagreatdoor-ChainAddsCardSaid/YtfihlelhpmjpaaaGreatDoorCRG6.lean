/- ring: what is made row by row. ring: turned, stretched. A region that draws its order, in a round: what only reads is taken first, where S holds behind every operation but the last one. ring: a column -/
import Derived.Deep.WholeRow
import Derived.Great.BuildSlice
import Derived.Laws.EntriesVeiled
import Derived.Test.YtfihlelhpmjpaaaGreatDoorCRG5
namespace Go.Proofs.YtfihlelhpmjpaaaGreatDoor.Rg
open Go.RowKit Go.Shelf Go.Maps Go.Proofs.YtfihlelhpmjpaaaGreatDoor.C Go.Proofs.YtfihlelhpmjpaaaGreatDoor.E
set_option linter.unusedSimpArgs false
set_option linter.unusedVariables false
attribute [local go_sem] Oper.semAt_some

theorem Tryz.infoSlc : (Tryz.prog.info? 57).map (fun i => (i.zero, i.size, i.bytes)) = some (some (.slice none 0 0), 1, 24) := by kernel_rfl
theorem Blk.at_ {w : World} {g g' : Nat} {t : TypeId} {cs : Array Value} (h : Blk w g t cs) (e : g = g') : Blk w g' t cs := e ▸ h
set_option maxRecDepth 100000 in
set_option maxHeartbeats 4000000 in
theorem rowsC_any (P Q k n : Nat) (hQ : P = Q + 1) (hP : P ≤ 17) (hk : 1 ≤ k) (hk2 : k ≤ 100) (h1 : 1 ≤ n) (h64 : n ≤ 64) (gl go capl fs : Nat) (vss : Nat → Value) (G : Nat → Nat → List UInt8) (w : World) (efs : ∀ args W, (callFunc fs args).run Tryz.prog W = .ok (.enter fs args) W)
    (hld : ∀ U, Below w.heap.size w U → ∀ i, i < k → U.cell? ⟨gl, go + i, none⟩ = some (vss i))
    (hG : ∀ i, i < k → ∀ r, r < Q → (G i r).length = n)
    (hc : ∀ U, Below w.heap.size w U → ∀ i, i < k → ∀ r, r < Q → Calls Tryz.prog fs #[vss i, .int .i64 (r : Int)] U fun e w' => ∃ u, e = .returned u ∧ BytesA (fun b => w.heap.size ≤ b ∧ b < U.heap.size) w' u (G i r) ∧ Below U.heap.size U w') :
    Calls Tryz.prog 264 #[.int .i64 (P : Int), .func (.func fs) #[] #[], .slice (some ⟨gl, go, none⟩) k capl] w fun e w' => ∃ v, e = .returned v ∧ (FreshMany w.heap.size w' v ((List.range Q).map fun r => xorOf ((List.range k).map fun i => G i r)) ∧ ∃ A, v = .slice A Q Q) ∧ Below w.heap.size w w' := by
  obtain ⟨i0, hi0, hz0, hz1, hz2⟩ := info_parts Tryz.infoSlc
  have hmkQ := fun W : World => run_make (P := Tryz.prog) W 37 57 i0 (.slice none 0 0) Tryz.underlying37 hi0 hz0 .i64 .i64 (Q : Int) (Q : Int) (by omega) (by omega) (by rw [hz2]; omega) (by omega)
  have hmkK := fun W : World => run_make (P := Tryz.prog) W 36 57 i0 (.slice none 0 0) Tryz.underlying36 hi0 hz0 .i64 .i64 (k : Int) (k : Int) (by omega) (by omega) (by rw [hz2]; omega) (by omega)
  simp only [hz1, Nat.mul_one, Int.toNat_natCast, show (Value.slice none 0 0).cells = #[.slice none 0 0] from rfl] at hmkQ hmkK
  clear hz0 hz1 hz2 hi0
  have HC := Lib.hid hc
  have HG := Lib.hid hG
  have HLD := Lib.hid hld
  have hPQ : (P : Int) - 1 = (Q : Int) := by omega
  have hwQ : IntKind.i64.wrap (Q : Int) = (Q : Int) := IntWalk.i64_in _ (by omega)
  have HQ := Lib.hid hQ
  clear hc hG hld hQ
  refine (callsIn_wide (n := 9)).1 ?_
  refine callsIn_of_wp_marks Tryz.func264 rfl trivial ?_ rfl
  simp only [Tryz.ntmps264, List.size_toArray, List.length_cons, List.length_nil, Nat.reduceAdd, Nat.reduceSub, Array.replicate_succ, Array.replicate_zero, List.push_toArray, List.append_toArray, List.nil_append, List.cons_append]
  gi_wp2_with fail
  refine wpIn_mono (Q := (fun e a V => e = Exit.normal ∧ ∃ gm gt, a = ({ tmps := #[.int .i64 (P : Int), .func (.func fs) #[] #[], .slice (some ⟨gl, go, none⟩) k capl, undef, undef, undef, .slice none 0 0, .slice (some ⟨gm, 0, none⟩) Q Q, .slice (some ⟨gt, 0, none⟩) k k, undef, undef, undef, .int .i64 (P : Int), .int .i64 (Q : Int), .slice (some ⟨gm, 0, none⟩) Q Q, .slice (some ⟨gl, go, none⟩) k capl, .int .i64 (k : Int), .slice (some ⟨gt, 0, none⟩) k k, undef, undef, undef, undef, undef, undef, undef, undef, undef, undef, undef, undef, undef, undef, undef, undef, undef, undef, undef, undef, undef, undef, undef, undef, undef, undef, undef], defers := [] } : Act) ∧ gm ≠ gt ∧ w.heap.size ≤ gm ∧ w.heap.size ≤ gt ∧ Blk V gm 57 (madeCells #[.slice none 0 0] Q) ∧ Blk V gt 57 (madeCells #[.slice none 0 0] k) ∧ Below w.heap.size w V)) (region_HF (S := fun _ => True) (by kernel_rfl) ?_) ?_
  · clear HC HG HLD
    refine anyHF_take (i := 0) (d := 12) (v := .int .i64 (P : Int)) (by kernel_rfl) rfl (by kernel_rfl) (by kernel_rfl) (by kernel_rfl) rfl (fun _ _ _ h => by cases h.1) ⟨Or.inl ⟨by rfl, fun w hS => by go_simp⟩, fun _ => rfl⟩ trivial ?_
    simp only [List.setIfInBounds_toArray, List.set_cons_zero, List.set_cons_succ]
    refine anyHF_take (i := 1) (d := 13) (v := .int .i64 (Q : Int)) (by kernel_rfl) rfl (by kernel_rfl) (by kernel_rfl) (by kernel_rfl) rfl (fun _ _ _ h => by cases h.1) ⟨Or.inl ⟨by rfl, fun w hS => by go_simp⟩, fun _ => rfl⟩ trivial ?_
    simp only [List.setIfInBounds_toArray, List.set_cons_zero, List.set_cons_succ]
    refine anyHF_take (i := 3) (d := 15) (v := .slice (some ⟨gl, go, none⟩) k capl) (by kernel_rfl) rfl (by kernel_rfl) (by kernel_rfl) (by kernel_rfl) rfl (fun _ _ _ h => by cases h.1) ⟨Or.inl ⟨by rfl, fun w hS => by go_simp⟩, fun _ => rfl⟩ trivial ?_
    simp only [List.setIfInBounds_toArray, List.set_cons_zero, List.set_cons_succ]
    refine anyHF_take (i := 4) (d := 16) (v := .int .i64 (k : Int)) (by kernel_rfl) rfl (by kernel_rfl) (by kernel_rfl) (by kernel_rfl) rfl (fun _ _ _ h => by cases h.1) ⟨Or.inl ⟨by rfl, fun w hS => by go_simp⟩, fun _ => rfl⟩ trivial ?_
    simp only [List.setIfInBounds_toArray, List.set_cons_zero, List.set_cons_succ]
    refine anyHF_both (i := 2) (j := 5) (by kernel_rfl) rfl rfl (by rfl) (by rfl) ?ca ?cb
    case ca =>
      gi_wp2
      try (refine ⟨trivial, ?_⟩)
      refine anyHF_both (i := 5) (j := 6) (by kernel_rfl) rfl rfl (by rfl) (by rfl) ?caa ?cab
      case caa =>
        gi_wp2
        try (refine ⟨trivial, ?_⟩)
        refine anyHF_one (i := 6) (by kernel_rfl) rfl (by kernel_rfl) (by rfl) ?_
        gi_wp2
        try (refine ⟨trivial, ?_⟩)
        refine anyHF_one (i := 7) (by kernel_rfl) rfl (by kernel_rfl) (by rfl) ?_
        gi_wp2
        try (refine ⟨trivial, ?_⟩)
        refine anyHF_done (by kernel_rfl) ?_ _
        exact ⟨rfl, _, _, rfl, by simp, by simp, by simp, (Blk.new w.drew _ _).alloc _, Blk.at_ (Blk.new (w.drew.alloc _) _ _) (by simp), (below_two w _ _).drew⟩
      case cab =>
        gi_wp2
        try (refine ⟨trivial, ?_⟩)
        refine anyHF_one (i := 5) (by kernel_rfl) rfl (by kernel_rfl) (by rfl) ?_
        gi_wp2
        try (refine ⟨trivial, ?_⟩)
        refine anyHF_one (i := 7) (by kernel_rfl) rfl (by kernel_rfl) (by rfl) ?_
        gi_wp2
        try (refine ⟨trivial, ?_⟩)
        refine anyHF_done (by kernel_rfl) ?_ _
        exact ⟨rfl, _, _, rfl, by simp, by simp, by simp, (Blk.new w.drew _ _).alloc _, Blk.at_ (Blk.new (w.drew.alloc _) _ _) (by simp), (below_two w _ _).drew⟩
    case cb =>
      gi_wp2
      try (refine ⟨trivial, ?_⟩)
      refine anyHF_one (i := 2) (by kernel_rfl) rfl (by kernel_rfl) (by rfl) ?_
      gi_wp2
      try (refine ⟨trivial, ?_⟩)
      refine anyHF_one (i := 6) (by kernel_rfl) rfl (by kernel_rfl) (by rfl) ?_
      gi_wp2
      try (refine ⟨trivial, ?_⟩)
      refine anyHF_one (i := 7) (by kernel_rfl) rfl (by kernel_rfl) (by rfl) ?_
      gi_wp2
      try (refine ⟨trivial, ?_⟩)
      refine anyHF_done (by kernel_rfl) ?_ _
      exact ⟨rfl, _, _, rfl, by simp, by simp, by simp, Blk.at_ (Blk.new (w.drew.alloc _) _ _) (by simp), (Blk.new w.drew _ _).alloc _, (below_two w _ _).drew⟩
  rintro e a V ⟨rfl, gm, gt, rfl, hmt, hgm, hgt, bM, bT, hBV⟩
  clear hmkQ hmkK hPQ hwQ
  rw [made_nils] at bM bT
  have lM : (List.replicate Q (Value.slice none 0 0)).length = Q := List.length_replicate
  have lT : (List.replicate k (Value.slice none 0 0)).length = k := List.length_replicate
  generalize List.replicate Q (Value.slice none 0 0) = ms0 at *
  generalize List.replicate k (Value.slice none 0 0) = ts0 at *
  have hVm := bM.lt
  have hVt := bT.lt
  gi_wp2_with fail
  gi_loopw [20] (fun x wr => ∃ (i : Nat) (ms ts : List Value), i ≤ Q ∧ x = .int .i64 (i : Int) ∧ Hid (Blk wr gm 57 ms.toArray ∧ ms.length = Q ∧ ToldF V.heap.size wr (fun r => xorOf ((List.range k).map fun i => G i r)) i ms ∧ Blk wr gt 57 ts.toArray ∧ ts.length = k ∧ Below w.heap.size w wr ∧ V.heap.size ≤ wr.heap.size)) (fun x _ => Q - (intOf x).toNat)
  case atStart => exact ⟨0, ms0, ts0, Nat.zero_le _, rfl, Lib.hid ⟨bM, lM, fun j hj => absurd hj (by omega), bT, lT, hBV, Nat.le_refl _⟩⟩
  case round =>
    obtain ⟨i, ms, ts, hi, rfl, HS⟩ := hrel
    clear bM bT lM lT
    by_cases hlt : i < Q
    · have hdec : decide ((i : Int) < (Q : Int)) = true := by simp; omega
      obtain ⟨wo, hwo⟩ : ∃ x, x = wr := ⟨_, rfl⟩
      subst hwo
      gi_wp2_with fail
      gi_loopw [25] (fun x wr => ∃ (j : Nat) (ts : List Value), j ≤ k ∧ x = .int .i64 (j : Int) ∧ Hid (Blk wr gm 57 ms.toArray ∧ ms.length = Q ∧ ToldF V.heap.size wr (fun r => xorOf ((List.range k).map fun i => G i r)) i ms ∧ Blk wr gt 57 ts.toArray ∧ ts.length = k ∧ ToldA (fun b => b = gm ∨ b = gt) wr (fun j => G j i) j ts ∧ Below w.heap.size w wr ∧ V.heap.size ≤ wr.heap.size)) (fun x _ => k - (intOf x).toNat)
      case atStart =>
        obtain ⟨h1, h2, h3, h4, h5, h6, h7⟩ := HS.out
        exact ⟨0, ts, Nat.zero_le _, rfl, Lib.hid ⟨h1, h2, h3, h4, h5, fun j hj => absurd hj (by omega), h6, h7⟩⟩
      case round =>
        obtain ⟨j, ts', hj, rfl, HI⟩ := hrel
        by_cases hjk : j < k
        · have hdecj : decide ((j : Int) < (k : Int)) = true := by simp; omega
          obtain ⟨a1, a2, a3, a4, a5, a6, a7, a8⟩ := HI.out
          have hldU := HLD.out wr a7 j hjk
          have hBx := Below.refl wr.heap.size wr
          have hcall := HC.out wr a7 j hjk i hlt
          have hnl := HG.out j hjk i hlt
          have i1 : (0 : Int) ≤ (j : Int) := by omega
          have i2 : (j : Int) < (k : Int) := by omega
          have i3 : (0 : Int) ≤ (i : Int) := by omega
          have hwj : IntKind.i64.wrap ((j : Int) + 1) = (j : Int) + 1 := IntWalk.i64_in _ (by omega)
          clear a1 a2 a3 a4 a5 a6 hlt hdec hjk
          gi_wp2_with fail
          refine ⟨trivial, (callsIn_wide.2 hcall).mono ?_⟩
          rintro e w5 ⟨u, rfl, hu, hB5⟩
          have hX5 := below_in hBx hB5
          obtain ⟨ua, uc, eu, _⟩ := id hu
          rw [hnl] at eu
          subst eu
          obtain ⟨b1, b2, b3, b4, b5, b6, b7, b8⟩ := HI.out
          have t4 := b4.below hX5 b4.lt
          obtain ⟨old, hold⟩ : ∃ old, w5.cell? ⟨gt, j, none⟩ = some old := ⟨_, by rw [t4.cell, List.getElem?_toArray, List.getElem?_eq_getElem (by omega)]⟩
          have hfz := t4.frozen j
          clear b1 b2 b3 b4 b5 b6 b7 b8
          gi_wp2_with fail
          obtain ⟨b1, b2, b3, b4, b5, b6, b7, b8⟩ := HI.out
          have hO : Only (fun b => b = gm ∨ b = gt) wr (w5.setCell ⟨gt, j, none⟩ (.slice ua n uc)) := (Only.below hX5).trans (Only.set (.inr rfl) _)
          have hOt : Only (fun b => b = gt) wr (w5.setCell ⟨gt, j, none⟩ (.slice ua n uc)) := (Only.below hX5).trans (Only.set (A := fun b => b = gt) (p := ⟨gt, j, none⟩) rfl _)
          have hOs : Only (fun b => b = gm ∨ b = gt) w5 (w5.setCell ⟨gt, j, none⟩ (.slice ua n uc)) := Only.set (.inr rfl) _
          have hsx := hX5.size
          have hsb := hBx.size
          have hlm := b1.lt
          have hlg := b4.lt
          have hfin : Blk (w5.setCell ⟨gt, j, none⟩ (.slice ua n uc)) gm 57 ms.toArray ∧ ms.length = Q ∧ ToldF V.heap.size (w5.setCell ⟨gt, j, none⟩ (.slice ua n uc)) (fun r => xorOf ((List.range k).map fun i => G i r)) i ms ∧ Blk (w5.setCell ⟨gt, j, none⟩ (.slice ua n uc)) gt 57 (ts'.set j (.slice ua n uc)).toArray ∧ (ts'.set j (.slice ua n uc)).length = k ∧ ToldA (fun b => b = gm ∨ b = gt) (w5.setCell ⟨gt, j, none⟩ (.slice ua n uc)) (fun j => G j i) (j + 1) (ts'.set j (.slice ua n uc)) ∧ Below w.heap.size w (w5.setCell ⟨gt, j, none⟩ (.slice ua n uc)) ∧ V.heap.size ≤ (w5.setCell ⟨gt, j, none⟩ (.slice ua n uc)).heap.size := by
            refine ⟨hOt.blk b1 hmt, b2, b3.only hOt (fun b e => by have e : b = gt := e; omega), ?_, by rw [List.length_set]; exact b5, (b6.only hO).next (by omega) ?_, (below_in b7 hX5).setCell (by show w.heap.size ≤ gt; omega) _, by simp; omega⟩
            · have := t4.set_ j (.slice ua n uc)
              rwa [List.setIfInBounds_toArray] at this
            · exact (hu.less (fun b e => by have e : b = gm ∨ b = gt := e; omega)).only hOs
          have HF := Lib.hid hfin
          clear hfin hO hOt hOs b1 b2 b3 b4 b5 b6 b7 b8 hu t4 hnl
          go_roundw
          case rel => exact ⟨j + 1, _, by omega, by go_num, HF⟩
          case measure => simp [intOf]; omega
        · obtain rfl : j = k := by omega
          have hdecj : decide ((j : Int) < (j : Int)) = false := by simp
          obtain ⟨b1, b2, b3, b4, b5, b6, b7, b8⟩ := HI.out
          have HUP := Lib.hid (upon_any _ _ wr (Nat.le_refl _) (b6.many b5 b4) (by rw [List.length_map, List.length_range]; omega) (many_ok hk h1 h64 (fun x hx => HG.out x hx i hlt)))
          have hxl : (xorOf ((List.range j).map fun x => G x i)).length = n := by
            rw [xorOf_len, List.getElem?_map, List.getElem?_range (by omega)]
            exact HG.out 0 (by omega) i hlt
          have i3 : (0 : Int) ≤ (i : Int) := by omega
          have hwi : IntKind.i64.wrap ((i : Int) + 1) = (i : Int) + 1 := IntWalk.i64_in _ (by have := HQ.out; omega)
          have HXL := Lib.hid hxl
          clear b1 b2 b3 b4 b5 b6 hxl
          gi_wp2_with fail
          refine ⟨trivial, (callsIn_wide.2 HUP.out).mono ?_⟩
          rintro e w5 ⟨u, rfl, hu, hB5⟩
          obtain ⟨ua, uc, eu⟩ := fresh_slice hu
          rw [HXL.out] at eu
          subst eu
          obtain ⟨b1, b2, b3, b4, b5, b6, _, _⟩ := HI.out
          have t1 := b1.below hB5 b1.lt
          obtain ⟨old, hold⟩ : ∃ old, w5.cell? ⟨gm, i, none⟩ = some old := ⟨_, by rw [t1.cell, List.getElem?_toArray, List.getElem?_eq_getElem (by omega)]⟩
          have hfz := t1.frozen i
          clear b1 b2 b3 b4 b5 b6
          gi_wp2_with fail
          obtain ⟨b1, b2, b3, b4, b5, b6, _, _⟩ := HI.out
          have hO : Only (fun b => b = gm) wr (w5.setCell ⟨gm, i, none⟩ (.slice ua n uc)) := (Only.below hB5).trans (Only.set (A := fun b => b = gm) (p := ⟨gm, i, none⟩) rfl _)
          have hOs : Only (fun b => b = gm) w5 (w5.setCell ⟨gm, i, none⟩ (.slice ua n uc)) := Only.set (A := fun b => b = gm) (p := ⟨gm, i, none⟩) rfl _
          have hsb := hB5.size
          have hlm := b1.lt
          have hfin : Blk (w5.setCell ⟨gm, i, none⟩ (.slice ua n uc)) gm 57 (ms.set i (.slice ua n uc)).toArray ∧ (ms.set i (.slice ua n uc)).length = Q ∧ ToldF V.heap.size (w5.setCell ⟨gm, i, none⟩ (.slice ua n uc)) (fun r => xorOf ((List.range j).map fun i => G i r)) (i + 1) (ms.set i (.slice ua n uc)) ∧ Blk (w5.setCell ⟨gm, i, none⟩ (.slice ua n uc)) gt 57 ts'.toArray ∧ ts'.length = j ∧ Below w.heap.size w (w5.setCell ⟨gm, i, none⟩ (.slice ua n uc)) ∧ V.heap.size ≤ (w5.setCell ⟨gm, i, none⟩ (.slice ua n uc)).heap.size := by
            refine ⟨?_, by rw [List.length_set]; exact b2, (b3.only hO (fun b e => by have e : b = gm := e; omega)).next (by omega) ?_, hO.blk b4 (fun e => hmt (Eq.symm e)), b5, (below_in b7 hB5).setCell (by show w.heap.size ≤ gm; omega) _, by simp; omega⟩
            · have := t1.set_ i (.slice ua n uc)
              rwa [List.setIfInBounds_toArray] at this
            · exact fresh_only (fresh_more hu b8) hOs (fun b e => by have e : b = gm := e; omega)
          have HF := Lib.hid hfin
          clear hfin hO hOs b1 b2 b3 b4 b5 b6 hu t1
          go_roundw
          case rel => exact ⟨i + 1, _, _, by omega, by go_num, HF⟩
          case measure => simp [intOf]; omega
    · obtain rfl : i = Q := by omega
      have hdec : decide ((i : Int) < (i : Int)) = false := by simp
      obtain ⟨b1, b2, b3, b4, b5, b6, b7⟩ := HS.out
      have HFM := Lib.hid ((b3.less (base' := w.heap.size) (by have := hBV.size; omega)).many b2 b1 hgm)
      gi_wp2_with fail
      exact ⟨_, by simp [results, Tryz.results264, go_sem], _, rfl, ⟨HFM.out, _, rfl⟩, b6⟩
end Go.Proofs.YtfihlelhpmjpaaaGreatDoor.Rg

namespace Go.Proofs.YtfihlelhpmjpaaaGreatDoor.Rg
open Go.RowKit Go.Shelf Go.Maps Go.Proofs.YtfihlelhpmjpaaaGreatDoor.C Go.Proofs.YtfihlelhpmjpaaaGreatDoor.E
set_option linter.unusedSimpArgs false
set_option linter.unusedVariables false
attribute [local go_sem] Oper.semAt_some

/-- Cells that are moved by so many rows. -/
def mvF (P : Nat) (by_ : Int) (f : Nat → List UInt8) (r : Nat) : List UInt8 := f (((r : Int) - by_) % P).toNat
/-- What is made row by row of k things. -/
def rowK (k Q : Nat) (G : Nat → Nat → List UInt8) : List (List UInt8) := (List.range Q).map fun r => xorOf ((List.range k).map fun i => G i r)
theorem freshMany_more {a b : Nat} {W : World} {v : Value} {ls : List (List UInt8)} (h : FreshMany a W v ls) (hb : b ≤ a) : FreshMany b W v ls := by
  obtain ⟨A, cap, e, hc, hA⟩ := h
  refine ⟨A, cap, e, hc, fun hp => ?_⟩
  obtain ⟨b', off, e2, hb1, hb2, hcell⟩ := hA hp
  exact ⟨b', off, e2, by omega, hb2, fun j hj => by obtain ⟨u, h1, h2⟩ := hcell j hj; exact ⟨u, h1, fresh_more h2 hb⟩⟩
section
variable {F : Fence} {n : Nat} {P : Program} {o : Oper} {a : Act} {w w' : World} {K : Act → World → Prop} {Q : Exit → Act → World → Prop} {t : TypeId} {v : Value}
end
end Go.Proofs.YtfihlelhpmjpaaaGreatDoor.Rg

namespace Go.Proofs.YtfihlelhpmjpaaaGreatDoor.T
open Go.RowKit Go.Shelf
set_option linter.unusedVariables false
set_option linter.unusedSimpArgs false

/-- Whatever order is picked from here on, S holds behind each operation. -/
def anyHG (F : Fence) (n : Nat) (P : Program) (md : Region.Mode) (ops : Array Oper) (Q : Exit → Act → World → Prop) (S : World → Prop) (m : Nat) : Nat → Array Bool → Act → World → Prop
  | 0, listed, a, w => Region.ready md ops listed = [] ∧ Q .normal a w
  | k + 1, listed, a, w => (Region.ready md ops listed = [] → Q .normal a w) ∧ ∀ i ∈ Region.ready md ops listed, wpOpIn F n P ops Q i (fun a' w' => (i = m ∨ S w') ∧ anyHG F n P md ops Q S m k (listed.setIfInBounds i true) a' w') a w
section
variable {F : Fence} {n : Nat} {P : Program} {md : Region.Mode} {ops : Array Oper} {Q : Exit → Act → World → Prop} {S : World → Prop} {m : Nat}
theorem anyHG.any : ∀ (k : Nat) (listed : Array Bool) (a : Act) (w : World), anyHG F n P md ops Q S m k listed a w → wpAnyIn F n P md ops Q k listed a w
  | 0, _, _, _, h => h
  | k + 1, _, _, _, h => ⟨h.1, fun i hi => wpOpIn_mono (fun a' w' h' => anyHG.any k _ a' w' h'.2) (h.2 i hi)⟩
theorem anyHG_first {i : Nat} {oi : Oper} {v : Value} (hnd : ∀ (i : Nat) (o : Oper), ops[i]? = some o → notDefer o.op = true) (hi : ops[i]? = some oi) (hsel : ∀ (j : Nat) (o : Oper) cs b, ops[j]? = some o → o.op ≠ .select cs b)
    (hQ : ∀ c a w, Q (.panic c) (a.put oi.dst v) w → Q (.panic c) a w) (hm : ∀ om, ops[m]? = some om → (om.after.any fun e => Region.binds md e && e.on == i) = true) :
    ∀ (k : Nat) (listed : Array Bool) (a : Act) (w : World),
      (∀ j oj, ops[j]? = some oj → j ≠ i → listed.getD j true = false → (∀ e ∈ oj.after, Region.binds md e = true → e.on ≠ i) → oi.apart ops oj = true) →
      i ∈ Region.ready md ops listed → Leaves P ops S oi v a → S w →
      anyHG F n P md ops Q S m k (listed.setIfInBounds i true) (a.put oi.dst v) w → anyHG F n P md ops Q S m (k + 1) listed a w := by
  intro k
  induction k with
  | zero =>
    intro listed a w _ hr hy hS H
    refine ⟨fun h => (by rw [h] at hr; cases hr), fun j hj => ?_⟩
    by_cases hji : j = i
    · subst hji; exact hy.op (hnd _ _ hi) hi hS ⟨.inr hS, H⟩
    · have := ready_mono hj hji
      rw [H.1] at this
      cases this
  | succ k ih =>
    intro listed a w hfree hr hy hS H
    refine ⟨fun h => (by rw [h] at hr; cases hr), fun j hj => ?_⟩
    by_cases hji : j = i
    · subst hji; exact hy.op (hnd _ _ hi) hi hS ⟨.inr hS, H⟩
    · have h1 := H.2 j (ready_mono hj hji)
      obtain ⟨hjun, oj, hoj, hall⟩ := mem_ready.1 hj
      have hnot : ∀ e ∈ oj.after, Region.binds md e = true → e.on ≠ i := fun e he hb heq => by
        have h1 := hall e he hb
        have h0 := (mem_ready.1 hr).1
        rw [heq] at h1
        rcases Nat.lt_or_ge i listed.size with h' | h'
        · simp [h'] at h0 h1; rw [h0] at h1; cases h1
        · simp [Array.getElem?_eq_none h'] at h1
      have h2 := Leaves.put (hnd _ _ hoj) hoj (hfree j oj hoj hji hjun hnot) (fun cs b => hsel i oi cs b hi) (fun cs b => hsel j oj cs b hoj) hQ hy h1
      have hjm : j ≠ m := fun e => by
        subst e
        have h1 := hm oj hoj
        rw [← Array.any_toList, List.any_eq_true] at h1
        obtain ⟨e, he, h2⟩ := h1
        rw [Bool.and_eq_true] at h2
        exact hnot e (Array.mem_toList_iff.1 he) h2.1 (by simpa using h2.2)
      refine wpOpIn_mono (fun a' w' h3 => ⟨h3.2.1, ih (listed.setIfInBounds j true) a' w' (fun x ox hx hxi hun hno => hfree x ox hx hxi ?_ hno) (ready_mono hr (Ne.symm hji)) h3.1 (h3.2.1.resolve_left hjm) ?_⟩) h2
      · by_cases hjx : j = x
        · subst hjx; exact hjun
        · rw [getD_set_ne true hjx] at hun; exact hun
      · rw [Array.setIfInBounds_comm _ _ hji]
        exact h3.2.2
theorem anyHG_take {i : Nat} {oi : Oper} {d : Tmp} {v : Value} {k : Nat} {listed : Array Bool} {a : Act} {w : World} (hnd : (ops.toList.all fun o => notDefer o.op) = true) (hi : ops[i]? = some oi)
    (hs : Region.noSelect ops = true) (hf : Region.free md ops listed i = true) (hr : (Region.ready md ops listed).contains i = true) (hd : oi.dst = some d)
    (hm : (match ops[m]? with | some om => om.after.any fun e => Region.binds md e && e.on == i | none => true) = true) (hQ : ∀ c a w, Q (.panic c) (a.put oi.dst v) w → Q (.panic c) a w) (hy : Leaves P ops S oi v a) (hS : S w)
    (h : anyHG F n P md ops Q S m k (listed.setIfInBounds i true) { tmps := a.tmps.setIfInBounds d v, defers := a.defers } w) : anyHG F n P md ops Q S m (k + 1) listed a w :=
  anyHG_first (all_nd hnd) hi (Region.noSelect_spec hs) hQ (fun om h => by rw [h] at hm; exact hm) k listed a w (Region.free_spec hi hf) (by simpa using hr) hy hS (by unfold Act.put; rw [hd]; exact h)
theorem anyHG_one {i : Nat} {o : Oper} {k : Nat} {listed : Array Bool} {a : Act} {w : World} (hr : Region.ready md ops listed = [i]) (ho : ops[i]? = some o) (hnd : (ops.toList.all fun o => notDefer o.op) = true) (hw : Region.wanted o (yielded ops a.tmps) = true)
    (h : Oper.wpIn F n P o a w (fun a' w' => (i = m ∨ S w') ∧ anyHG F n P md ops Q S m k (listed.setIfInBounds i true) a' w') Q) : anyHG F n P md ops Q S m (k + 1) listed a w :=
  ⟨fun h0 => (by rw [hr] at h0; cases h0), fun j hj => by
    rw [hr] at hj
    obtain rfl := List.mem_singleton.1 hj
    unfold wpOpIn
    rw [ho]
    simp only [hw, if_true]
    exact h⟩
theorem anyHG_done {listed : Array Bool} {a : Act} {w : World} (hr : Region.ready md ops listed = []) (h : Q .normal a w) : ∀ k, anyHG F n P md ops Q S m k listed a w
  | 0 => ⟨hr, h⟩
  | _ + 1 => ⟨fun _ => h, by rw [hr]; simp⟩
theorem region_HG {id : Nat} {a : Act} {w : World} (hm : P.follows .mixedOrders = true) (h : anyHG F n P .any ops Q S m ops.size (Array.replicate ops.size false) a w.drew) : (Code.region id ops true).wpIn F n P Q a w :=
  wpIn_region_any hm (anyHG.any _ _ _ _ h)
end
end Go.Proofs.YtfihlelhpmjpaaaGreatDoor.T

namespace Go.Proofs.YtfihlelhpmjpaaaGreatDoor.Rg
open Go.RowKit Go.Shelf Go.Maps Go.Proofs.YtfihlelhpmjpaaaGreatDoor.C Go.Proofs.YtfihlelhpmjpaaaGreatDoor.E
set_option linter.unusedSimpArgs false
set_option linter.unusedVariables false
attribute [local go_sem] Oper.semAt_some

/-- The cells of a column, with a nought for its last row. -/
def wholeF (Q n : Nat) (c : List (List UInt8)) (r : Nat) : List UInt8 := if r < Q then c[r]?.getD [] else List.replicate n 0
/-- A column that may be. -/
def ColOk (P n : Nat) (c : List (List UInt8)) : Prop := (P : Int) ∈ prm ∧ GoodC (P - 1) n c ∧ 1 ≤ n ∧ n ≤ 64
theorem many_list {B : Nat} {W : World} {b off Q : Nat} {c : List (List UInt8)} (h : ∀ j, j < Q → ∃ A cap, W.cell? ⟨b, off + j, none⟩ = some (.slice A (c[j]?.getD []).length cap) ∧ Bytes B W (.slice A (c[j]?.getD []).length cap) (c[j]?.getD [])) :
    ∃ cvs : List Value, cvs.length = Q ∧ (∀ j u, cvs[j]? = some u → W.cell? ⟨b, off + j, none⟩ = some u) ∧ (∀ j, j < Q → ∃ u, cvs[j]? = some u ∧ Bytes B W u (c[j]?.getD [])) ∧ ∀ v ∈ cvs, v.oneCell' = true := by
  refine ⟨(List.range Q).map fun j => (W.cell? ⟨b, off + j, none⟩).getD undef, by simp, fun j u hu => ?_, fun j hj => ?_, fun v hv => ?_⟩
  · have hj : j < Q := by have := (List.getElem?_eq_some_iff.1 hu).1; simpa using this
    rw [List.getElem?_map, List.getElem?_range hj] at hu
    obtain ⟨A, cap, h1, _⟩ := h j hj
    simp only [Option.map_some, h1, Option.getD_some, Option.some.injEq] at hu
    rw [h1, hu]
  · obtain ⟨A, cap, h1, h2⟩ := h j hj
    exact ⟨_, by rw [List.getElem?_map, List.getElem?_range hj, Option.map_some, h1]; rfl, h2⟩
  · obtain ⟨j, hj, rfl⟩ := List.mem_map.1 hv
    obtain ⟨A, cap, h1, _⟩ := h j (List.mem_range.1 hj)
    rw [h1]
    rfl
section
variable {F : Fence} {n : Nat} {P : Program} {o : Oper} {a : Act} {w : World} {K : Act → World → Prop} {Q : Exit → Act → World → Prop} {t : TypeId} {v : Value} {p : Operand} {ad : Addr}
theorem opIn_loadS (ho : o.op = .load t p) (hp : a.eval p = .pointer (some ad)) (hv : LoadIs P t ad v w) (h : K (a.put o.dst v) w) : Oper.wpIn F n P o a w K Q := by
  refine ⟨fun f hf => ?_, ?_⟩
  · simp [Oper.about, ho] at hf
  · rw [Oper.semAt_eq _ _ _ (by simp [ho]), exec_load ho hp hv]
    exact h
end
section
variable {F : Fence} {m : Nat} {P : Program} {ops : Array Oper} {Q : Exit → Act → World → Prop} {rest : List Oper} {o : Oper} {a : Act} {w w' : World} {v dv sv : Value}
theorem wpListIn_copyS {d s : Operand} {dT sT : TypeId} (hgd : o.guard = none) (ho : o.op = .call { callee := .builtin .copy, args := #[d, s], argTypes := #[dT, sT] }) (hd : a.eval d = dv) (hs : a.eval s = sv) (hr : ∀ ty, (Builtin.copy_ #[dT, sT] ty #[dv, sv]).run P w = .ok v w') (h : wpListIn F m P ops Q rest (a.put o.dst v) w') : wpListIn F m P ops Q (o :: rest) a w :=
  wpListIn_plain hgd fun K hK => by
    refine ⟨fun f hf => ?_, ?_⟩
    · simp [Oper.about, ho, resolve, Target.leads] at hf
    · rw [Oper.semAt_eq _ _ _ (by simp [ho])]
      unfold execOp
      simp [ho, resolve, invoke, builtin, hd, hs, hr, Result.andThen]
      exact hK _ _ h
end
set_option maxRecDepth 100000 in
set_option maxHeartbeats 4000000 in
theorem asked_yes {B : Nat} (P Q n : Nat) (hQ : P = Q + 1) (c : List (List UInt8)) (v : Value) (hok : ColOk P n c) (w : World) (hL : Laid w) (hB : B ≤ w.heap.size) (hM : Many B w v c) :
    Calls Tryz.prog 171 #[.int .i64 (P : Int), v] w fun e w' => ∃ vs, e = .returned (.agg vs.toArray) ∧ ColV w'.heap.size w' P n (wholeF Q n c) vs ∧ Below w.heap.size w w' := by
  obtain ⟨hp, hgc, h1, h64⟩ := hok
  have hpb := prm_bounds hp
  have hcl : c.length = Q := by have := hgc.1; omega
  have hce : ∀ r, r < Q → (c[r]?.getD []).length = n := fun r hr => (hgc.2 r (by omega)).2
  have hRD : RightD (P : Int) [c] := (rightD_iff hp (by simp)).2 (fun j hj => by
    obtain rfl : j = 0 := by simpa using hj
    have e : ((P : Int) - 1).toNat = P - 1 := by omega
    have e2 : (firstC [c]).length = n := by
      show (c[0]?.getD []).length = n
      exact hce 0 (by omega)
    rw [e, e2]
    exact hgc)
  obtain ⟨cap0, e0, _⟩ : ∃ cap, (∃ A, v = .slice A c.length cap) ∧ True := by obtain ⟨A, cap, e, _⟩ := hM; exact ⟨cap, ⟨A, e⟩, trivial⟩
  obtain ⟨Av, rfl⟩ := e0
  obtain ⟨cb, co, rfl, hcb, hcell⟩ := many_at hM (by omega)
  rw [hcl] at hM ⊢
  have hcell' : ∀ j, j < Q → ∃ A cap, w.cell? ⟨cb, co + j, none⟩ = some (.slice A (c[j]?.getD []).length cap) ∧ Bytes B w (.slice A (c[j]?.getD []).length cap) (c[j]?.getD []) := fun j hj => hcell j (by omega)
  obtain ⟨cvs, hvl, hvc, hvb, hv1⟩ := many_list hcell'
  obtain ⟨A0, c0, k0, _⟩ := hcell' 0 (by omega)
  rw [hce 0 (by omega), Nat.add_zero] at k0
  obtain ⟨WX, hWX⟩ : ∃ x, (w.alloc (.cells #[.int .i64 0, .slice none 0 0, .slice none 0 0, .slice none 0 0, .slice none 0 0, .slice none 0 0, .slice none 0 0, .slice none 0 0, .slice none 0 0, .slice none 0 0, .slice none 0 0, .slice none 0 0, .slice none 0 0, .slice none 0 0, .slice none 0 0, .slice none 0 0, .slice none 0 0, .slice none 0 0] 189)) = x := ⟨_, rfl⟩
  have hBX : Below w.heap.size w WX := by rw [← hWX]; exact below_one w _
  have bX : Blk WX w.heap.size 189 #[.int .i64 0, .slice none 0 0, .slice none 0 0, .slice none 0 0, .slice none 0 0, .slice none 0 0, .slice none 0 0, .slice none 0 0, .slice none 0 0, .slice none 0 0, .slice none 0 0, .slice none 0 0, .slice none 0 0, .slice none 0 0, .slice none 0 0, .slice none 0 0, .slice none 0 0, .slice none 0 0] := by rw [← hWX]; exact Blk.new w _ _
  have sX : WX.heap.size = w.heap.size + 1 := by rw [← hWX]; simp
  have hCols : ∀ U, Blk U WX.heap.size 37 #[.slice (some ⟨cb, co, none⟩) Q cap0] → Below WX.heap.size WX U → E.Cols U.heap.size U (.slice (some ⟨WX.heap.size, 0, none⟩) 1 1) [c] := fun U hb hU => by
    refine ⟨_, 1, rfl, Nat.le_refl _, fun _ => ⟨WX.heap.size, 0, rfl, hb.lt, fun j hj => ?_⟩⟩
    obtain rfl : j = 0 := by simpa using hj
    exact ⟨_, hb.cell 0, (hM.below ((below_in hBX hU).mono hB)).more (Nat.le_trans hB (below_in hBX hU).size)⟩
  have HRI := Lib.hid (fun (U : World) (hb : Blk U WX.heap.size 37 #[.slice (some ⟨cb, co, none⟩) Q cap0]) (hU : Below WX.heap.size WX U) => right_yes (P : Int) _ [c] U (hL.next (below_in hBX hU)) (Nat.le_refl _) (hCols U hb hU) (by simp) hRD)
  have HLA := Lib.hid (fun (us : List Value) (h : us[0]? = some (.int .i64 (P : Int))) (U : World) => last_any P Q hQ us (by omega) h U)
  have HZ := Lib.hid (fun (U : World) => zero_yes n h1 h64 U)
  obtain ⟨us, hus⟩ : ∃ us, (Value.int .i64 (P : Int)) :: (cvs ++ List.replicate (17 - Q) (.slice none 0 0)) = us := ⟨_, rfl⟩
  have hul : us.length = 18 := by rw [← hus, List.length_cons, List.length_append, List.length_replicate]; omega
  have hus0 : us[0]? = some (.int .i64 (P : Int)) := by rw [← hus]; rfl
  have husg : ∀ r, r < Q → us[r + 1]? = cvs[r]? := fun r hr => by rw [← hus, List.getElem?_cons_succ, List.getElem?_append_left (by omega)]
  have hus1 : ∀ x ∈ us, x.oneCell' = true := fun x hx => by
    rw [← hus] at hx
    rcases List.mem_cons.1 hx with rfl | hx
    · rfl
    · rcases List.mem_append.1 hx with hx | hx
      · exact hv1 x hx
      · rw [(List.mem_replicate.1 hx).2]; rfl
  have HCP := Lib.hid (fun (Wa WB : World) (hb : Blk WB Wa.heap.size 189 #[.int .i64 (P : Int), .slice none 0 0, .slice none 0 0, .slice none 0 0, .slice none 0 0, .slice none 0 0, .slice none 0 0, .slice none 0 0, .slice none 0 0, .slice none 0 0, .slice none 0 0, .slice none 0 0, .slice none 0 0, .slice none 0 0, .slice none 0 0, .slice none 0 0, .slice none 0 0, .slice none 0 0]) (hc : ∀ j u, cvs[j]? = some u → WB.cell? ⟨cb, co + j, none⟩ = some u) (ty : TypeId) => (by
    have := run_copy_row (P := Tryz.prog) WB 36 37 ty 57 Wa.heap.size 1 17 17 ⟨cb, co, none⟩ Q cap0 #[.int .i64 (P : Int), .slice none 0 0, .slice none 0 0, .slice none 0 0, .slice none 0 0, .slice none 0 0, .slice none 0 0, .slice none 0 0, .slice none 0 0, .slice none 0 0, .slice none 0 0, .slice none 0 0, .slice none 0 0, .slice none 0 0, .slice none 0 0, .slice none 0 0, .slice none 0 0, .slice none 0 0] 189 cvs Tryz.underlying36 (by kernel_rfl) hb (by rw [hvl]; exact (Nat.min_eq_left (by omega)).symm) (fun j u hu => by rw [addr_add]; exact hc j u hu) (by rw [hvl]; show 1 + Q ≤ 18; omega) hv1
    rw [show (#[Value.int .i64 (P : Int), .slice none 0 0, .slice none 0 0, .slice none 0 0, .slice none 0 0, .slice none 0 0, .slice none 0 0, .slice none 0 0, .slice none 0 0, .slice none 0 0, .slice none 0 0, .slice none 0 0, .slice none 0 0, .slice none 0 0, .slice none 0 0, .slice none 0 0, .slice none 0 0, .slice none 0 0].toList.take 1 ++ cvs ++ #[Value.int .i64 (P : Int), .slice none 0 0, .slice none 0 0, .slice none 0 0, .slice none 0 0, .slice none 0 0, .slice none 0 0, .slice none 0 0, .slice none 0 0, .slice none 0 0, .slice none 0 0, .slice none 0 0, .slice none 0 0, .slice none 0 0, .slice none 0 0, .slice none 0 0, .slice none 0 0, .slice none 0 0].toList.drop (1 + cvs.length)) = us from by
      rw [← hus, hvl, Nat.add_comm 1 Q]
      show [Value.int .i64 (P : Int)] ++ cvs ++ (List.replicate 17 (Value.slice none 0 0)).drop Q = _
      rw [List.drop_replicate]
      rfl] at this
    exact this : (Builtin.copy_ #[36, 37] ty #[.slice (some ⟨Wa.heap.size, 1, none⟩) 17 17, .slice (some ⟨cb, co, none⟩) Q cap0]).run Tryz.prog WB = .ok (goInt cvs.length) (WB.setRow Wa.heap.size us.toArray)))
  have HCV := Lib.hid (fun (U : World) (hU : Below w.heap.size w U) (j : Nat) (u : Value) (hu : cvs[j]? = some u) => (hU.cell (p := ⟨cb, co + j, none⟩) (Nat.lt_of_lt_of_le hcb hB)).trans (hvc j u hu))
  have HK0 := Lib.hid (fun (U : World) (hU : Below w.heap.size w U) => (hU.cell (p := ⟨cb, co, none⟩) (Nat.lt_of_lt_of_le hcb hB)).trans k0)
  have HVB := Lib.hid (fun (U : World) (hU : Below w.heap.size w U) (r : Nat) (hr : r < Q) => (by
    obtain ⟨u, hu, hb⟩ := hvb r hr
    exact ⟨u, (husg r hr).trans hu, (hb.below (hU.mono hB)).more (Nat.le_trans hB hU.size)⟩ : ∃ u, us[r + 1]? = some u ∧ Bytes U.heap.size U u (c[r]?.getD [])))
  have HQ := Lib.hid hQ
  have HCE := Lib.hid hce
  have HPB := Lib.hid hpb
  have HUS1 := Lib.hid hus1
  have HUSL := Lib.hid hul
  have HSX := Lib.hid sX
  have hcq : 0 < Q := by omega
  clear hus husg hvl hvc hvb hv1 hcell hcell' k0 hRD hCols hgc hcl hce hQ hp hpb hM hL hus1 hul sX
  refine (callsIn_wide (n := 9)).1 ?_
  refine callsIn_of_wp_marks Tryz.func171 rfl trivial ?_ rfl
  simp only [Tryz.ntmps171, List.size_toArray, List.length_cons, List.length_nil, Nat.reduceAdd, Nat.reduceSub, Array.replicate_succ, Array.replicate_zero, List.push_toArray, List.append_toArray, List.nil_append, List.cons_append]
  gi_wp2_with fail
  obtain ⟨WY, hWY⟩ : ∃ x, (WX.alloc (.cells #[.slice (some ⟨cb, co, none⟩) Q cap0] 37)) = x := ⟨_, rfl⟩
  have hBY : Below WX.heap.size WX WY := by rw [← hWY]; exact below_one WX _
  have bY : Blk WY WX.heap.size 37 #[.slice (some ⟨cb, co, none⟩) Q cap0] := by rw [← hWY]; exact Blk.new WX _ _
  rw [hWY]
  refine ⟨trivial, (callsIn_wide.2 (HRI.out WY bY hBY)).mono ?_⟩
  rintro e Wa ⟨rfl, hBa⟩
  have hBwa : Below w.heap.size w Wa := below_in hBX (below_in hBY hBa)
  have bXa := bX.below (below_in hBY hBa) bX.lt
  clear hWX hWY bY
  gi_wp2_with fail
  refine ⟨trivial, (callsIn_wide.2 (need_yes Wa)).mono ?_⟩
  rintro e Wa' ⟨rfl, rfl⟩
  have hstn := run_storeVar_new (P := Tryz.prog) Wa 189 #[.int .i64 0, .slice none 0 0, .slice none 0 0, .slice none 0 0, .slice none 0 0, .slice none 0 0, .slice none 0 0, .slice none 0 0, .slice none 0 0, .slice none 0 0, .slice none 0 0, .slice none 0 0, .slice none 0 0, .slice none 0 0, .slice none 0 0, .slice none 0 0, .slice none 0 0, .slice none 0 0] #[.int .i64 (P : Int), .slice none 0 0, .slice none 0 0, .slice none 0 0, .slice none 0 0, .slice none 0 0, .slice none 0 0, .slice none 0 0, .slice none 0 0, .slice none 0 0, .slice none 0 0, .slice none 0 0, .slice none 0 0, .slice none 0 0, .slice none 0 0, .slice none 0 0, .slice none 0 0, .slice none 0 0] (by kernel_rfl) rfl (by rw [Array.all_eq_true_iff_forall_mem]; intro v hv; exact one_nils _ v (by simpa using hv))
  obtain ⟨WB, hWB⟩ : ∃ x, Wa.alloc (.cells #[.int .i64 (P : Int), .slice none 0 0, .slice none 0 0, .slice none 0 0, .slice none 0 0, .slice none 0 0, .slice none 0 0, .slice none 0 0, .slice none 0 0, .slice none 0 0, .slice none 0 0, .slice none 0 0, .slice none 0 0, .slice none 0 0, .slice none 0 0, .slice none 0 0, .slice none 0 0, .slice none 0 0] 189) = x := ⟨_, rfl⟩
  have hBb : Below Wa.heap.size Wa WB := by rw [← hWB]; exact below_one Wa _
  have bB : Blk WB Wa.heap.size 189 #[.int .i64 (P : Int), .slice none 0 0, .slice none 0 0, .slice none 0 0, .slice none 0 0, .slice none 0 0, .slice none 0 0, .slice none 0 0, .slice none 0 0, .slice none 0 0, .slice none 0 0, .slice none 0 0, .slice none 0 0, .slice none 0 0, .slice none 0 0, .slice none 0 0, .slice none 0 0, .slice none 0 0] := by rw [← hWB]; exact Blk.new Wa _ _
  rw [hWB] at hstn
  have hcp := HCP.out Wa WB bB (HCV.out WB (below_in hBwa hBb))
  obtain ⟨WC, hWC⟩ : ∃ x, WB.setRow Wa.heap.size us.toArray = x := ⟨_, rfl⟩
  rw [hWC] at hcp
  have hwa := hBwa.size
  have hBc : Below w.heap.size w WC := by rw [← hWC]; exact C.below_setRow (below_in hBwa hBb) hwa _
  have bC : Blk WC Wa.heap.size 189 us.toArray := by rw [← hWC]; exact bB.setRow _
  have hlx := bXa.lt
  have bXc : Blk WC w.heap.size 189 #[.int .i64 0, .slice none 0 0, .slice none 0 0, .slice none 0 0, .slice none 0 0, .slice none 0 0, .slice none 0 0, .slice none 0 0, .slice none 0 0, .slice none 0 0, .slice none 0 0, .slice none 0 0, .slice none 0 0, .slice none 0 0, .slice none 0 0, .slice none 0 0, .slice none 0 0, .slice none 0 0] := by rw [← hWC]; exact (bXa.below hBb bXa.lt).farRow (by omega) _
  have hcg := bC.lt
  have HSS : Hid (∀ U, Below WC.heap.size WC U → (fun U : World => U.cell? ⟨cb, co, none⟩ = some (.slice A0 n c0)) U) := fun U hU => HK0.out U (below_in hBc hU)
  have HST : Hid (∀ U, Below WC.heap.size WC U → ∀ zA zc, (fun U : World => U.cell? ⟨cb, co, none⟩ = some (.slice A0 n c0)) (U.setCell ⟨Wa.heap.size, 1 + Q, none⟩ (.slice zA n zc))) := fun U hU zA zc => by
    have hc := HK0.out U (below_in hBc hU)
    exact (World.cell?_of_block (Below.heap_setCell U ⟨Wa.heap.size, 1 + Q, none⟩ _ cb (by show cb ≠ Wa.heap.size; omega))).trans hc
  have HOLD : Hid (∀ U, Below WC.heap.size WC U → ∃ old, U.cell? ⟨Wa.heap.size, 1 + Q, none⟩ = some old) := fun U hU => ⟨_, by rw [(bC.below hU bC.lt).cell, List.getElem?_toArray, List.getElem?_eq_getElem (by have := HUSL.out; have := HPB.out; have := HQ.out; omega)]⟩
  have HFZ : Hid (∀ U, Below WC.heap.size WC U → U.frozen? ⟨Wa.heap.size, 1 + Q, none⟩ = false) := fun U hU => (bC.below hU bC.lt).frozen _
  have HBC := Lib.hid bC
  have hBCd : Blk WC.drew Wa.heap.size 189 us.toArray := bC
  have HBXC := Lib.hid bXc
  clear bB bC bXc bXa bX hWC
  have hcvl : cvs.length = cvs.length := rfl
  gi_wp2_with (first | refine wpListIn_storeS rfl rfl rfl rfl hstn ?_ | refine wpListIn_copyS rfl rfl rfl rfl hcp ?_)
  simp only [Act.put, List.setIfInBounds_toArray, List.set_cons_zero, List.set_cons_succ]
  have hBx := (Below.refl WC.heap.size WC).drew
  have i1 : (0 : Int) ≤ (Q : Int) := by omega
  have i2 : (Q : Int) < 17 := by have := HPB.out; have := HQ.out; omega
  have hS : (fun U : World => U.cell? ⟨cb, co, none⟩ = some (.slice A0 n c0)) WC.drew := HSS.out _ hBx
  refine wpIn_mono (region_HF (Q := NoPanic _) (S := (fun U : World => U.cell? ⟨cb, co, none⟩ = some (.slice A0 n c0))) (by kernel_rfl) ?_) NoPanic.imp
  refine anyHF_take (i := 2) (d := 19) (v := .slice (some ⟨cb, co, none⟩) Q cap0) (by kernel_rfl) rfl (by kernel_rfl) (by kernel_rfl) (by kernel_rfl) rfl (fun _ _ _ h => h) ⟨Or.inl ⟨by rfl, fun w hS => by have h0 := hS; go_simp⟩, fun _ => rfl⟩ hS ?_
  simp only [List.setIfInBounds_toArray, List.set_cons_zero, List.set_cons_succ]
  refine anyHF_take (i := 3) (d := 20) (v := .pointer (some ⟨cb, co, none⟩)) (by kernel_rfl) rfl (by kernel_rfl) (by kernel_rfl) (by kernel_rfl) rfl (fun _ _ _ h => h) ⟨Or.inl ⟨by rfl, fun w hS => by have h0 := hS; go_simp⟩, fun _ => rfl⟩ hS ?_
  simp only [List.setIfInBounds_toArray, List.set_cons_zero, List.set_cons_succ]
  refine anyHF_take (i := 4) (d := 21) (v := .slice A0 n c0) (by kernel_rfl) rfl (by kernel_rfl) (by kernel_rfl) (by kernel_rfl) rfl (fun _ _ _ h => h) ⟨Or.inl ⟨by rfl, fun w hS => by have h0 := hS; go_simp⟩, fun _ => rfl⟩ hS ?_
  simp only [List.setIfInBounds_toArray, List.set_cons_zero, List.set_cons_succ]
  refine anyHF_take (i := 5) (d := 22) (v := .int .i64 (n : Int)) (by kernel_rfl) rfl (by kernel_rfl) (by kernel_rfl) (by kernel_rfl) rfl (fun _ _ _ h => h) ⟨Or.inl ⟨by rfl, fun w hS => by have h0 := hS; go_simp⟩, fun _ => rfl⟩ hS ?_
  simp only [List.setIfInBounds_toArray, List.set_cons_zero, List.set_cons_succ]
  refine anyHF_take (i := 10) (d := 27) (v := .pointer (some ⟨Wa.heap.size, 1, none⟩)) (by kernel_rfl) rfl (by kernel_rfl) (by kernel_rfl) (by kernel_rfl) rfl (fun _ _ _ h => h) ⟨Or.inl ⟨by rfl, fun w hS => by have h0 := hS; go_simp⟩, fun _ => rfl⟩ hS ?_
  simp only [List.setIfInBounds_toArray, List.set_cons_zero, List.set_cons_succ]
  refine anyHF_one (i := 0) (by kernel_rfl) rfl (by kernel_rfl) (by rfl) ?_
  refine opIn_loadS rfl rfl (load_col0 hBCd HUSL.out) ?_
  gi_wp2
  try (refine ⟨hS, ?_⟩)
  refine anyHF_one (i := 1) (by kernel_rfl) rfl (by kernel_rfl) (by rfl) ?_
  gi_wp2_with fail
  refine ⟨trivial, (callsIn_wide.2 (HLA.out us hus0 _)).mono ?_⟩
  rintro e w1 ⟨rfl, hB1⟩
  replace hBx := below_in hBx hB1
  clear hS
  have hS : (fun U : World => U.cell? ⟨cb, co, none⟩ = some (.slice A0 n c0)) w1 := HSS.out _ hBx
  gi_wp2
  try (refine ⟨hS, ?_⟩)
  refine anyHF_one (i := 6) (by kernel_rfl) rfl (by kernel_rfl) (by rfl) ?_
  gi_wp2_with fail
  refine ⟨trivial, (callsIn_wide.2 (HZ.out _)).mono ?_⟩
  rintro e w2 ⟨z, rfl, hz, hB2⟩
  obtain ⟨zA, zc, ez⟩ := fresh_slice hz
  rw [List.length_replicate] at ez
  subst ez
  have hsz := hBx.size
  replace hBx := below_in hBx hB2
  clear hS
  have hS : (fun U : World => U.cell? ⟨cb, co, none⟩ = some (.slice A0 n c0)) w2 := HSS.out _ hBx
  gi_wp2
  try (refine ⟨hS, ?_⟩)
  refine anyHF_take (i := 7) (d := 24) (v := .slice zA n zc) (by kernel_rfl) rfl (by kernel_rfl) (by kernel_rfl) (by kernel_rfl) rfl (fun _ _ _ h => h) ⟨Or.inl ⟨by rfl, fun w hS => by have h0 := hS; go_simp⟩, fun _ => rfl⟩ hS ?_
  simp only [List.setIfInBounds_toArray, List.set_cons_zero, List.set_cons_succ]
  refine anyHF_take (i := 8) (d := 25) (v := .int .i64 0) (by kernel_rfl) rfl (by kernel_rfl) (by kernel_rfl) (by kernel_rfl) rfl (fun _ _ _ h => h) ⟨Or.inl ⟨by rfl, fun w hS => by have h0 := hS; go_simp⟩, fun _ => rfl⟩ hS ?_
  simp only [List.setIfInBounds_toArray, List.set_cons_zero, List.set_cons_succ]
  refine anyHF_one (i := 9) (by kernel_rfl) rfl (by kernel_rfl) (by rfl) ?_
  gi_wp2_with fail
  refine ⟨trivial, (callsIn_wide.2 (sureB (.slice zA n zc) _)).mono ?_⟩
  rintro e w3 ⟨rfl, hww⟩
  subst hww
  gi_wp2
  try (refine ⟨hS, ?_⟩)
  refine anyHF_take (i := 11) (d := 28) (v := .pointer (some ⟨Wa.heap.size, 1 + Q, none⟩)) (by kernel_rfl) rfl (by kernel_rfl) (by kernel_rfl) (by kernel_rfl) rfl (fun _ _ _ h => h) ⟨Or.inl ⟨by rfl, fun w hS => by have h0 := hS; go_simp⟩, fun _ => rfl⟩ hS ?_
  simp only [List.setIfInBounds_toArray, List.set_cons_zero, List.set_cons_succ]
  refine anyHF_one (i := 12) (by kernel_rfl) rfl (by kernel_rfl) (by rfl) ?_
  have h0 := hS
  have hST := HST.out _ hBx zA zc
  obtain ⟨old, hold⟩ := HOLD.out _ hBx
  have hfz := HFZ.out _ hBx
  gi_wp2_with fail
  try (refine ⟨hST, ?_⟩)
  refine anyHF_done (by kernel_rfl) ?_ _
  refine NoPanic.normal ?_
  have c1 := HBC.out.below hBx HBC.out.lt
  have hus2 : (us.set (1 + Q) (.slice zA n zc)).length = 18 := by rw [List.length_set]; exact HUSL.out
  have hB1z := hB1.size
  have c2 : Blk (w2.setCell ⟨Wa.heap.size, 1 + Q, none⟩ (.slice zA n zc)) Wa.heap.size 189 (us.set (1 + Q) (.slice zA n zc)).toArray := by
    have := c1.set_ (1 + Q) (.slice zA n zc)
    rwa [List.setIfInBounds_toArray] at this
  have hlx := HBXC.out.lt
  have hxa : w.heap.size < Wa.heap.size := by have := HSX.out; have := hBY.size; have := hBa.size; omega
  have c3 : Blk (w2.setCell ⟨Wa.heap.size, 1 + Q, none⟩ (.slice zA n zc)) w.heap.size 189 #[.int .i64 0, .slice none 0 0, .slice none 0 0, .slice none 0 0, .slice none 0 0, .slice none 0 0, .slice none 0 0, .slice none 0 0, .slice none 0 0, .slice none 0 0, .slice none 0 0, .slice none 0 0, .slice none 0 0, .slice none 0 0, .slice none 0 0, .slice none 0 0, .slice none 0 0, .slice none 0 0] := (HBXC.out.below hBx hlx).far (by show w.heap.size ≠ Wa.heap.size; omega) _
  have hone : ∀ x ∈ us.set (1 + Q) (.slice zA n zc), x.oneCell' = true := fun x hx => by
    rcases List.mem_or_eq_of_mem_set hx with h | rfl
    · exact HUS1.out x h
    · rfl
  have HLD := load_col0 c2 hus2
  have HSD := store_col0 (cs := [.int .i64 0, .slice none 0 0, .slice none 0 0, .slice none 0 0, .slice none 0 0, .slice none 0 0, .slice none 0 0, .slice none 0 0, .slice none 0 0, .slice none 0 0, .slice none 0 0, .slice none 0 0, .slice none 0 0, .slice none 0 0, .slice none 0 0, .slice none 0 0, .slice none 0 0, .slice none 0 0]) c3 rfl hus2 hone
  have hBf := (below_in hBc hBx).setCell (p := ⟨Wa.heap.size, 1 + Q, none⟩) (by show w.heap.size ≤ Wa.heap.size; omega) (.slice zA n zc)
  have hBg := C.below_setRow hBf (Nat.le_refl w.heap.size) (us.set (1 + Q) (.slice zA n zc)).toArray
  have HFIN : Hid (ColV ((w2.setCell ⟨Wa.heap.size, 1 + Q, none⟩ (.slice zA n zc)).setRow w.heap.size (us.set (1 + Q) (.slice zA n zc)).toArray).heap.size ((w2.setCell ⟨Wa.heap.size, 1 + Q, none⟩ (.slice zA n zc)).setRow w.heap.size (us.set (1 + Q) (.slice zA n zc)).toArray) P n (wholeF Q n c) (us.set (1 + Q) (.slice zA n zc)) ∧ LoadIs Tryz.prog 189 ⟨w.heap.size, 0, none⟩ (.agg (us.set (1 + Q) (.slice zA n zc)).toArray) ((w2.setCell ⟨Wa.heap.size, 1 + Q, none⟩ (.slice zA n zc)).setRow w.heap.size (us.set (1 + Q) (.slice zA n zc)).toArray)) := by
    refine ⟨⟨hus2, by rw [List.getElem?_set_ne (by omega)]; exact hus0, fun r hr => ?_, hone⟩, load_col0 (c3.setRow _) hus2⟩
    have hlq := HQ.out
    by_cases hrq : r < Q
    · obtain ⟨u, hu, hb⟩ := HVB.out _ hBg r hrq
      refine ⟨by unfold wholeF; rw [if_pos hrq]; exact HCE.out r hrq, u, by rw [List.getElem?_set_ne (by omega)]; exact hu, ?_⟩
      unfold wholeF
      rw [if_pos hrq]
      exact hb
    · obtain rfl : r = Q := by omega
      refine ⟨by unfold wholeF; rw [if_neg hrq]; simp, .slice zA n zc, by rw [Nat.add_comm r 1]; exact List.getElem?_set_self (by have := HUSL.out; have := HPB.out; omega), ?_⟩
      unfold wholeF
      rw [if_neg hrq]
      have hzb : BytesA (fun b => b < w1.heap.size) w2 (.slice zA n zc) (List.replicate n 0) := BytesA.of_fresh hz (fun b h => h)
      have hw1 : Wa.heap.size < w1.heap.size := by have := HBC.out.lt; omega
      exact ((hzb.only (Only.set (A := fun b => b < w1.heap.size) (p := ⟨Wa.heap.size, 1 + r, none⟩) hw1 _)).only (Only.row (A := fun b => b < w1.heap.size) (g := w.heap.size) (by omega) _)).bytes
  clear hone c1 c2 c3 hz hcp hstn
  have HBG := Lib.hid hBg
  generalize us.set (1 + Q) (.slice zA n zc) = us2 at *
  gi_wp2_with (first | refine wpListIn_loadS rfl rfl rfl HLD ?_ | refine wpListIn_storeS rfl rfl rfl rfl HSD ?_)
  exact ⟨_, results_cell rfl rfl HFIN.out.2, us2, rfl, HFIN.out.1, HBG.out⟩
end Go.Proofs.YtfihlelhpmjpaaaGreatDoor.Rg

namespace Go.Proofs.YtfihlelhpmjpaaaGreatDoor.Rg
open Go.RowKit Go.Shelf Go.Maps Go.Proofs.YtfihlelhpmjpaaaGreatDoor.C Go.Proofs.YtfihlelhpmjpaaaGreatDoor.E
set_option linter.unusedSimpArgs false
set_option linter.unusedVariables false
attribute [local go_sem] Oper.semAt_some

theorem freshMany_only {A : Nat → Prop} {X Y : World} {v : Value} {ls : List (List UInt8)} {base : Nat} (h : FreshMany base X v ls) (ho : Only A X Y) (hA : ∀ b, A b → b < base) : FreshMany base Y v ls := by
  obtain ⟨a, cap, e, hc, hb⟩ := h
  refine ⟨a, cap, e, hc, fun hp => ?_⟩
  obtain ⟨b, off, e2, h1, h2, hcell⟩ := hb hp
  exact ⟨b, off, e2, h1, Nat.lt_of_lt_of_le h2 ho.1, fun j hj => by
    obtain ⟨u, h3, h4⟩ := hcell j hj
    exact ⟨u, (World.cell?_of_block (ho.2 b h2 (fun e => by have := hA b e; omega))).trans h3, fresh_only h4 ho hA⟩⟩
end Go.Proofs.YtfihlelhpmjpaaaGreatDoor.Rg

namespace Go.Proofs.YtfihlelhpmjpaaaGreatDoor.Rg
open Go.RowKit Go.Shelf Go.Maps Go.Proofs.YtfihlelhpmjpaaaGreatDoor.C Go.Proofs.YtfihlelhpmjpaaaGreatDoor.E
set_option linter.unusedSimpArgs false
set_option linter.unusedVariables false
attribute [local go_sem] Oper.semAt_some

theorem enter_summed1 : ∀ args W, (callFunc 265 args).run Tryz.prog W = .ok (.enter 265 args) W := enters_of Tryz.func265 (by kernel_rfl) rfl
set_option maxHeartbeats 1000000 in
theorem summed1_any {B : Nat} (v : Value) (c : List (List UInt8)) (r : Nat) (w : World) (hB : B ≤ w.heap.size) (hM : Many B w v c) (hr : r < c.length) :
    Calls Tryz.prog 265 #[v, .int .i64 (r : Int)] w fun e w' => ∃ u, e = .returned u ∧ Bytes B w' u (c[r]?.getD []) ∧ Below w.heap.size w w' := by
  obtain ⟨A, cap, rfl, _, _⟩ := id hM
  obtain ⟨b, off, rfl, hb, hc⟩ := many_at hM (by omega)
  obtain ⟨A1, cp, hcell, hby⟩ := hc r hr
  have i1 : (0 : Int) ≤ (r : Int) := by omega
  have i2 : (r : Int) < (c.length : Int) := by omega
  have HBY := Lib.hid hby
  clear hc hM hby
  generalize c[r]?.getD [] = x at *
  generalize c.length = C at *
  go_enter Tryz.func265, Tryz.ntmps265
  go_wp2
  go_ret
  exact ⟨_, rfl, HBY.out, Below.refl _ _⟩
set_option maxRecDepth 100000 in
set_option maxHeartbeats 4000000 in
theorem summed_yes {B : Nat} (P Q n : Nat) (hQ : P = Q + 1) (css : List (List (List UInt8))) (v : Value) (hok : RightD (P : Int) css) (hn : (firstC css).length = n) (h1 : 1 ≤ n) (h64 : n ≤ 64) (hl0 : 0 < css.length) (hl : css.length ≤ 100) (w : World) (hL : Laid w) (hB : B ≤ w.heap.size) (hC : Cols B w v css) :
    Calls Tryz.prog 217 #[.int .i64 (P : Int), v] w fun e w' => ∃ u, e = .returned u ∧ (FreshMany w.heap.size w' u (rowK css.length Q (fun i r => (css[i]?.getD [])[r]?.getD [])) ∧ ∃ A, u = .slice A Q Q) ∧ Below w.heap.size w w' := by
  have hpb := prm_bounds hok.1
  have hgc := (rightD_iff hok.1 hl0).1 hok
  have e1 : ((P : Int) - 1).toNat = Q := by omega
  rw [e1, hn] at hgc
  obtain ⟨gl, go, cap, rfl, _, hgl, hrow⟩ := hC.at_ hl0
  have HRI := Lib.hid (fun (U : World) (hU : Below w.heap.size w U) => right_yes (B := B) (P : Int) _ css U (hL.next hU) (Nat.le_trans hB hU.size) (hC.below (hU.mono hB)) (by omega) hok)
  have HROW := Lib.hid (fun (V : World) (hV : Below w.heap.size w V) => rowsC_any P Q css.length n hQ (by omega) hl0 hl h1 h64 gl go cap 265 (fun i => (w.cell? ⟨gl, go + i, none⟩).getD undef) (fun i r => (css[i]?.getD [])[r]?.getD []) V enter_summed1
      (fun X hX i hi => by
        obtain ⟨u, hu, _⟩ := hrow i hi
        have hXw := below_in hV hX
        rw [hu]
        exact (hXw.cell (p := ⟨gl, go + i, none⟩) (Nat.lt_of_lt_of_le hgl hB)).trans hu)
      (fun i hi r hr => ((hgc i hi).2 r hr).2)
      (fun X hX i hi r hr => by
        obtain ⟨u, hu, hm⟩ := hrow i hi
        have hXw := below_in hV hX
        rw [hu]
        refine (summed1_any (B := B) u (css[i]?.getD []) r X (Nat.le_trans hB hXw.size) (hm.below (hXw.mono hB)) (by rw [(hgc i hi).1]; exact hr)).mono ?_
        rintro e X' ⟨u', rfl, hu', hB'⟩
        exact ⟨u', rfl, BytesA.of_bytes hu' (Nat.le_trans hB (Nat.le_trans hXw.size hB'.size)) (fun b hb => Nat.le_trans hB (Nat.le_trans hV.size hb.1)), hB'⟩))
  clear hgc hC hrow hok hn hpb e1 hQ hL
  generalize css.length = k at *
  go_enter Tryz.func217, Tryz.ntmps217
  go_wp2_with (first
    | (go_at_call 96; refine (HRI.out _ (Below.refl _ _)).mono ?_; rintro e w1 ⟨rfl, hB1⟩)
    | (go_at_call 219; refine (need_yes _).mono ?_; rintro e w2 ⟨rfl, rfl⟩)
    | (go_at_call 264; refine (HROW.out _ hB1).mono ?_; rintro e w3 ⟨u, rfl, hu, hB3⟩))
  go_ret
  exact ⟨_, rfl, ⟨freshMany_more hu.1 hB1.size, hu.2⟩, below_in hB1 hB3⟩
theorem enter_sum1 : ∀ args W, (callFunc 216 args).run Tryz.prog W = .ok (.enter 216 args) W := enters_of Tryz.func216 (by kernel_rfl) rfl
set_option maxRecDepth 100000 in
set_option maxHeartbeats 4000000 in
theorem sum_yes {B : Nat} (P Q n : Nat) (hQ : P = Q + 1) (css : List (List (List UInt8))) (v : Value) (hok : RightD (P : Int) css) (hn : (firstC css).length = n) (h1 : 1 ≤ n) (h64 : n ≤ 64) (hl0 : 0 < css.length) (hl : css.length ≤ 100) (w : World) (hL : Laid w) (hB : B ≤ w.heap.size) (hC : Cols B w v css) :
    Calls Tryz.prog 168 #[.int .i64 (P : Int), v] w fun e w' => ∃ u, e = .returned (.tuple #[u, .int .i64 0]) ∧ (FreshMany w.heap.size w' u (rowK css.length Q (fun i r => (css[i]?.getD [])[r]?.getD [])) ∧ ∃ A, u = .slice A Q Q) ∧ Below w.heap.size w w' := by
  obtain ⟨A, cap, rfl, _, _⟩ := id hC
  obtain ⟨W2, hW2⟩ : ∃ W2, (w.alloc (.cells #[.int .i64 (P : Int)] 3)).alloc (.cells #[.slice A css.length cap] 22) = W2 := ⟨_, rfl⟩
  have b0 : Blk W2 w.heap.size 3 #[.int .i64 (P : Int)] := by rw [← hW2]; exact (Blk.new w _ _).alloc _
  have b1 : Blk W2 (w.heap.size + 1) 22 #[.slice A css.length cap] := by rw [← hW2]; exact Blk.second w _ _ _
  have hBW : Below w.heap.size w W2 := by rw [← hW2]; exact below_two w _ _
  have HA := Lib.hid (ans_C_yes 216 #[.pointer (some ⟨w.heap.size, 0, none⟩), .pointer (some ⟨w.heap.size + 1, 0, none⟩)] W2 (fun u W => ∃ a b c', u = .slice a b c' ∧ FreshMany (W2.heap.size + 1) W u (rowK css.length Q (fun i r => (css[i]?.getD [])[r]?.getD [])) ∧ ∃ A, u = .slice A Q Q) (enter_sum1 _) (fun U hU bU => by
    have hBU := below_in hBW hU
    have hltU := bU.lt
    have HS := Lib.hid (fun (V : World) (hV : Below U.heap.size U V) => summed_yes (B := B) P Q n hQ css (.slice A css.length cap) hok hn h1 h64 hl0 hl V (hL.next (below_in hBU hV)) (Nat.le_trans hB (below_in hBU hV).size) (hC.below ((below_in hBU hV).mono hB)))
    have c0 := (b0.below hU b0.lt).one
    have c1 := (b1.below hU b1.lt).one
    clear hC b0 b1 hW2 hL hok hn bU hQ
    generalize rowK css.length Q (fun i r => (css[i]?.getD [])[r]?.getD []) = rk at *
    generalize css.length = k at *
    go_enter Tryz.func216, Tryz.ntmps216
    go_wp2_with (go_at_call 217; refine (HS.out _ (by first | exact Below.refl _ _ | exact (Below.refl _ _).drew)).mono ?_; rintro e w1 ⟨u, rfl, hu, hB1⟩; obtain ⟨uA, un, uc, rfl⟩ : ∃ a b c, u = .slice a b c := by obtain ⟨a, c, e, _⟩ := hu.1; exact ⟨a, _, c, e⟩)
    go_ret
    exact ⟨_, rfl, ⟨uA, un, uc, rfl, freshMany_more hu.1 (by omega), hu.2⟩, hB1⟩))
  clear hC b0 b1 hL hok hn hQ
  generalize rowK css.length Q (fun i r => (css[i]?.getD [])[r]?.getD []) = rk at *
  generalize css.length = k at *
  go_enter Tryz.func168, Tryz.ntmps168
  have hmf : ∀ (fn : Fn) (first cap : Array Value) (w : World), (Instr.makeFunc fn first cap).run Tryz.prog w = .ok (.func fn first cap) w := fun _ _ _ _ => rfl
  go_wp2_with (go_at_call 169; refine HA.out.mono ?_; rintro e w1 ⟨u, W, rfl, ⟨uA, un, uc, rfl, hu, hcp⟩, bE, rfl, hB1⟩)
  go_ret2
  exact ⟨_, rfl, ⟨freshMany_more (freshMany_only hu (Only.set (A := fun b => b = W2.heap.size) (p := ⟨W2.heap.size, 0, none⟩) rfl _) (fun b e => by have e : b = W2.heap.size := e; omega)) (by have := hBW.size; omega), hcp⟩, below_in hBW hB1⟩
end Go.Proofs.YtfihlelhpmjpaaaGreatDoor.Rg

namespace Go.Proofs.YtfihlelhpmjpaaaGreatDoor.Rg
open Go.RowKit Go.Shelf Go.Maps Go.Proofs.YtfihlelhpmjpaaaGreatDoor.C Go.Proofs.YtfihlelhpmjpaaaGreatDoor.E
set_option linter.unusedSimpArgs false
set_option linter.unusedVariables false
attribute [local go_sem] Oper.semAt_some

/-- The rows of a walk, but for the last one. -/
def rowsF (p : Int) (zs : List Int) : List Int := zs.filter (fun x : Int => decide (x ≠ p - 1))
theorem rowsF_snoc (p : Int) (pre : List Int) (x : Int) : rowsF p (pre ++ [x]) = if x = p - 1 then rowsF p pre else rowsF p pre ++ [x] := by
  unfold rowsF
  rw [List.filter_append]
  by_cases h : x = p - 1
  · rw [if_pos h, List.filter_cons_of_neg (by simpa using h)]; simp
  · rw [if_neg h, List.filter_cons_of_pos (by simpa using h)]; rfl
theorem rowsF_len (p : Int) (pre : List Int) : (rowsF p pre).length ≤ pre.length := List.length_filter_le _ _
theorem enter_rows1 : ∀ args W, (callFunc 215 args).run Tryz.prog W = .ok (.enter 215 args) W := enters_of Tryz.func215 (by kernel_rfl) rfl
theorem eql_rows (g h : Nat) (W : World) : (binOp .eql 139 (.func (.func 215) #[] #[.pointer (some ⟨g, 0, none⟩), .pointer (some ⟨h, 0, none⟩)]) .nilFunc).run Tryz.prog W = .ok (.bool false) W := by kernel_rfl
end Go.Proofs.YtfihlelhpmjpaaaGreatDoor.Rg

