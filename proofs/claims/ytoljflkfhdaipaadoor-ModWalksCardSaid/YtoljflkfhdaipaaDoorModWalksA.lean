/- ModWalks where there is a walk. -/
import Derived.Test.YtoljflkfhdaipaaDoorModWalksKit
namespace Go.Proofs.YtoljflkfhdaipaaDoor.modWalks
open Go.ChangeShapes Go.WideShapes Go.ChangeAt Go.RowKit Go.Shelf
set_option linter.unusedVariables false

attribute [local go_sem] Oper.semAt_some
set_option maxRecDepth 100000 in
set_option maxHeartbeats 2000000 in
theorem fine (p x0 x1 x2 many : Int) (hf : Fine p [x0]) (w : World) (hL : Laid w) (v0 : -9223372036854775808 ≤ x0 ∧ x0 ≤ 9223372036854775807) (v1 : -9223372036854775808 ≤ x1 ∧ x1 ≤ 9223372036854775807) (v2 : -9223372036854775808 ≤ x2 ∧ x2 ≤ 9223372036854775807) (vm : -9223372036854775808 ≤ many ∧ many ≤ 9223372036854775807) :
    Calls Tryd.prog 5 #[.int .i64 p, .agg #[.int .i64 x0, .int .i64 x1, .int .i64 x2], .int .i64 many] w fun e w' => e = .returned (.bool true) ∧ Below w.heap.size w w' := by
  refine (callsIn_wide (n := 5)).1 ?_
  refine callsIn_of_wp_marks Tryd.func5 rfl trivial ?_ rfl
  simp only [Tryd.ntmps5, List.size_toArray, List.length_cons, List.length_nil, Nat.reduceAdd, Nat.reduceSub, Array.replicate_succ, Array.replicate_zero, List.push_toArray, List.append_toArray, List.nil_append, List.cons_append]
  obtain ⟨hp, a0, a1⟩ := fine_one.1 hf
  have hb := prm_bounds hp
  have HR := Lib.hid (fun W => right_any p W)
  rw [decide_eq_true hp] at HR
  have HA := Lib.hid (fun W => at_any p x0 W)
  rw [decide_eq_true ⟨a0, a1⟩] at HA
  obtain ⟨P, rfl⟩ : ∃ P : Nat, p = (P : Int) := ⟨p.toNat, by omega⟩
  have HW := Lib.hid (fun W => rwalk_any P x0 x1 (by omega) (by omega) a0 a1 v1.1 v1.2 W)
  have HV := Lib.hid (fun W h => modWalk_any P x0 x1 W h v1.1 v1.2)
  have eL : walkN P x0 x1 = walkL P x0 (x1 % (P : Int)) := walkN_yes hf
  rw [eL] at HV
  have hlen : (walkL P x0 (x1 % (P : Int))).length = P := walkL_len _ _ _
  have HM := Lib.hid (fun W h => meet_any P x0 x1 x2 W h v1.1 v1.2)
  have HQ := Lib.hid (fun W => rmeet_any P x0 x1 x2 (by omega) (by omega) a0 a1 v1.1 v1.2 W)
  have eM : meetN P x0 x1 x2 = if 0 ≤ x2 ∧ x2 < P then (if x2 ∈ walkL P x0 (x1 % (P : Int)) then (((ahead x2 (walkL P x0 (x1 % (P : Int))) : Nat) : Int), 0) else (0, 5)) else (0, 2) := by
    unfold meetN
    rw [eL]
    by_cases h2 : 0 ≤ x2 ∧ x2 < P
    · rw [if_pos ⟨hp, ⟨a0, a1⟩, h2⟩, if_pos h2]
    · rw [if_neg (fun h => h2 h.2.2), if_neg h2]
  have HEM := Lib.hid eM
  have HLen := Lib.hid hlen
  have HL17 := Lib.hid (show (walkL P x0 (x1 % (P : Int))).length ≤ 17 by omega)
  clear eM hlen eL hf hp
  obtain ⟨L, hLL⟩ : ∃ L, walkL P x0 (x1 % (P : Int)) = L := ⟨_, rfl⟩
  rw [hLL] at HW HV HLen HEM HQ HL17
  clear hLL
  gi_wp2_with fail
  obtain ⟨W4, hW4⟩ : ∃ W4, (((w.alloc (.cells #[.int .i64 x0, .int .i64 x1, .int .i64 x2] 36)).alloc (.cells #[.int .i64 many] 3)).alloc (.cells #[.bool false] 4)).alloc (.cells #[.slice none 0 0] 22) = W4 := ⟨_, rfl⟩
  have b0 : Blk W4 w.heap.size 36 #[.int .i64 x0, .int .i64 x1, .int .i64 x2] := by rw [← hW4]; exact (((Blk.new w _ _).alloc _).alloc _).alloc _
  have b1 : Blk W4 (w.heap.size + 1) 3 #[.int .i64 many] := by
    rw [← hW4]; have := ((Blk.new (w.alloc (.cells #[.int .i64 x0, .int .i64 x1, .int .i64 x2] 36)) 3 #[.int .i64 many]).alloc (.cells #[.bool false] 4)).alloc (.cells #[.slice none 0 0] 22); rwa [World.size_alloc] at this
  have b2 : Blk W4 (w.heap.size + 1 + 1) 4 #[.bool false] := by
    rw [← hW4]; have := (Blk.new ((w.alloc (.cells #[.int .i64 x0, .int .i64 x1, .int .i64 x2] 36)).alloc (.cells #[.int .i64 many] 3)) 4 #[.bool false]).alloc (.cells #[.slice none 0 0] 22); rwa [World.size_alloc, World.size_alloc] at this
  have b3 : Blk W4 (w.heap.size + 1 + 1 + 1) 22 #[.slice none 0 0] := by
    rw [← hW4]; have := Blk.new (((w.alloc (.cells #[.int .i64 x0, .int .i64 x1, .int .i64 x2] 36)).alloc (.cells #[.int .i64 many] 3)).alloc (.cells #[.bool false] 4)) 22 #[.slice none 0 0]; rwa [World.size_alloc, World.size_alloc, World.size_alloc] at this
  have hB4 : Below w.heap.size w W4 := by rw [← hW4]; exact ((((Below.refl _ w).alloc (Nat.le_refl _) _).alloc (by simp) _).alloc (by simp; omega) _).alloc (by simp; omega) _
  have hs4 : W4.heap.size = w.heap.size + 4 := by rw [← hW4]; simp
  rw [hW4]
  clear hW4
  refine ⟨trivial, (callsIn_wide.2 (HR.out W4)).mono ?_⟩
  rintro e w5 ⟨rfl, hB5⟩
  have d0 := b0.below hB5 b0.lt
  have d1 := b1.below hB5 b1.lt
  have d2 := b2.below hB5 b2.lt
  have d3 := b3.below hB5 b3.lt
  have hB05 := below_in hB4 hB5
  have hL5 := hL.next hB05
  have hs5 := hB5.size
  clear b0 b1 b2 b3
  have c0 : w5.cell? ⟨w.heap.size, 0, none⟩ = some (.int .i64 x0) := d0.cell 0
  have c1 : w5.cell? ⟨w.heap.size, 1, none⟩ = some (.int .i64 x1) := d0.cell 1
  gi_wp2_with (refine ⟨trivial, ?_⟩; gi_at_call 15; refine (callsIn_wide.2 (HA.out _)).mono ?_; rintro e w' ⟨rfl, rfl⟩)
  refine ⟨trivial, (callsIn_wide.2 (HW.out w5)).mono ?_⟩
  rintro e w6 ⟨vw, rfl, hown, hB6⟩
  obtain ⟨Aw, cw, rfl, hcw, hA⟩ := hown.ints
  have hI6 : Ints w6.heap.size w6 (.slice Aw L.length cw) L := ⟨Aw, cw, rfl, hcw, hA⟩
  have d3' := d3.below hB6 d3.lt
  have k3 := d3'.one
  have f3 := d3'.frozen 0
  have c0' : w6.cell? ⟨w.heap.size, 0, none⟩ = some (.int .i64 x0) := (d0.below hB6 d0.lt).cell 0
  have c1' : w6.cell? ⟨w.heap.size, 1, none⟩ = some (.int .i64 x1) := (d0.below hB6 d0.lt).cell 1
  gi_wp2_with fail
  obtain ⟨W6, hW6⟩ : ∃ W6, w6.setCell ⟨w.heap.size + 1 + 1 + 1, 0, none⟩ (.slice Aw L.length cw) = W6 := ⟨_, rfl⟩
  have F6 : Facts W6 w.heap.size x0 x1 x2 many Aw cw L := by
    rw [← hW6]
    refine ⟨(d0.below hB6 d0.lt).far (by simp; omega) _, (d1.below hB6 d1.lt).far (by simp) _, (d2.below hB6 d2.lt).far (by simp) _, d3'.set_ 0 _, ?_, ?_⟩
    · have h : OwnI (w6.setCell ⟨w.heap.size + 1 + 1 + 1, 0, none⟩ (.slice Aw L.length cw)) w5.heap.size (.slice Aw L.length cw) L := ownsRow_setCell_below hown (by simp; omega) _
      exact h.ints
    · exact (hL5.next hB6).below ((Below.refl (w.heap.size + 1) w6).setCell (by simp) _) (by omega)
  have hB06 : Below w.heap.size w W6 := by rw [← hW6]; exact (below_in hB05 hB6).setCell (by simp; omega) _
  have hs6 : w.heap.size + 4 ≤ W6.heap.size := by have := hB6.size; rw [← hW6]; simp; omega
  rw [hW6]
  clear hW6 hown hA hI6 d0 d1 d2 d3 d3' k3 f3 c0 c0' c1 c1' hB4 hB5 hB6 hB05 hL5 hs5 HR HA HW hs4
  refine ⟨trivial, (callsIn_wide.2 (HV.out W6 F6.2.2.2.2.2)).mono ?_⟩
  rintro e w7 ⟨v, rfl, ⟨gf, lb, rfl, eg, eq, hg⟩, hB7⟩
  gi_wp2_with fail
  obtain ⟨V0, hV0⟩ : ∃ V0, w7.alloc (.cells #[.int .i64 0] 3) = V0 := ⟨_, rfl⟩
  have hB70 : Below w7.heap.size w7 V0 := by rw [← hV0]; exact (Below.refl _ w7).alloc (Nat.le_refl _) _
  have ct0 : Blk V0 w7.heap.size 3 #[.int .i64 0] := by rw [← hV0]; exact Blk.new _ _ _
  have F0 := (F6.next hB7).next hB70
  have hW0 := below_in (below_in hB06 hB7) hB70
  have HG := Lib.hid (hg.later hB70)
  have hs7 := hB7.size
  rw [hV0]
  clear hV0 hg F6 hB7 hB70 hB06
  refine loop_left [9, 10, 35, 36, 37, 38, 39, 40, 41, 64, 65, 66, 67, 68, 69, 70, 71, 72, 73, 74, 75, 76, 77, 78, 79, 80, 81, 82, 83, 84, 85] (fun m vs Ds V => ∃ (t Bt : Nat) (y10 y35 y36 y37 y38 y39 y40 y41 y64 y65 y66 y67 y68 y69 y70 y71 y72 y73 y74 y75 y76 y77 y78 y79 y80 y81 y82 y83 y84 y85 : Value), vs = [.pointer (some ⟨Bt, 0, none⟩), y10, y35, y36, y37, y38, y39, y40, y41, y64, y65, y66, y67, y68, y69, y70, y71, y72, y73, y74, y75, y76, y77, y78, y79, y80, y81, y82, y83, y84, y85] ∧ t + m = 2 ∧ w7.heap.size ≤ Bt ∧ Blk V Bt 3 #[.int .i64 (t : Int)] ∧ Facts V w.heap.size x0 x1 x2 many Aw cw L ∧ Left w.heap.size V Ds ∧ Below V0.heap.size V0 V) 2
    [.pointer (some ⟨w7.heap.size, 0, none⟩), undef, undef, undef, undef, undef, undef, undef, undef, undef, undef, undef, undef, undef, undef, undef, undef, undef, undef, undef, undef, undef, undef, undef, undef, undef, undef, undef, undef, undef, undef] (by kernel_rfl) ⟨0, w7.heap.size, _, _, _, _, _, _, _, _, _, _, _, _, _, _, _, _, _, _, _, _, _, _, _, _, _, _, _, _, _, _, rfl, rfl, Nat.le_refl _, ct0, F0, Left.nil _ _, Below.refl _ _⟩ ?_
  clear F0
  rintro m vs Ds V ⟨t, Bt, y10, y35, y36, y37, y38, y39, y40, y41, y64, y65, y66, y67, y68, y69, y70, y71, y72, y73, y74, y75, y76, y77, y78, y79, y80, y81, y82, y83, y84, y85, rfl, htm, hBt, ct, F, hLeft, hBV⟩ K hK
  simp only [sets, List.setIfInBounds_toArray, List.set_cons_zero, List.set_cons_succ]
  have hs0 := hBV.size
  have hw0 := ct0.lt
  have hW := below_in hW0 hBV
  have hL17 := HL17.out
  obtain ⟨f1, f2, f3, f4, f5, f6⟩ := id F
  have ctx := ct.one
  have l1 := f1.lt
  have l2 := f2.lt
  have l3 := f3.lt
  have l4 := f4.lt
  have lt := ct.lt
  obtain rfl | rfl | rfl : t = 0 ∨ t = 1 ∨ t = 2 := by omega
  · gi_wp2_with fail
    obtain ⟨kk, hg⟩ := HG.out.later (hBV.alloc hBV.size (.cells #[.int .i64 0] 3))
    have hnb : Blk (V.alloc (.cells #[.int .i64 0] 3)) V.heap.size 3 #[.int .i64 (([] : List Int).length : Int)] := Blk.new _ _ _
    refine wpIn_rangeOwn1 rfl (by omega) (gf := gf) (lb := lb) rfl trivial eg (hg _ (by omega)) (by simp; omega) (Below.refl _ _) (fun _ => rfl)
      (fun pre W => (pre <+: L ∧ (pre.length = 0 ∨ (pre.length : Int) < many)) ∧ Told V.heap.size V pre W)
      (fun c pre W => (c = .ret ∧ ¬ (pre <+: L)) ∨ ((c = .exit 2 ∧ 1 ≤ pre.length ∧ (pre.length = 1 ∨ (pre.length : Int) - 1 < many) ∧ many ≤ (pre.length : Int) ∧ pre <+: L) ∧ Told V.heap.size V pre W))
      ((spares_pure _ _ _).and (told_spares _ _ _ _ (by simp) (by simp)))
      (fun c => told_if _ _ _ _ (by simp) (by simp) (fun pre => c = .ret ∧ ¬ (pre <+: L)) (fun pre => (c = .exit 2 ∧ 1 ≤ pre.length ∧ (pre.length = 1 ∨ (pre.length : Int) - 1 < many) ∧ many ≤ (pre.length : Int) ∧ pre <+: L)))
      ⟨⟨List.nil_prefix, .inl rfl⟩, hnb, (Below.refl _ _).alloc (Nat.le_refl _) _⟩
      ?a1_0 ?assign_0 ?body_0 ?done_0 ?stop_0
    case assign_0 =>
      intro l' x W K hK
      gi_wp2
      exact hK
    case body_0 =>
      rintro l' pre x W hsz ⟨⟨hpre, hcnd⟩, hn, hB⟩ hlt
      have hple := hpre.length_le
      have htake := List.prefix_iff_eq_take.1 hpre
      have cn := hn.one
      have fn := hn.frozen 0
      have cwx := (f4.below hB f4.lt).one
      have cty := (ct.below hB ct.lt).one
      have cmx := (f2.below hB f2.lt).one
      have crx := (f3.below hB f3.lt).one
      have frx := (f3.below hB f3.lt).frozen 0
      have hbs := hB.size
      obtain ⟨A', cap', eA, _, hA⟩ := f5
      injection eA with eA1 eA2 eA3
      obtain ⟨g, off, hAw, hg', hcell⟩ := hA (by omega)
      rw [← eA1] at hAw
      subst hAw
      have cx : W.cell? ⟨g, off + pre.length, none⟩ = some (.int .i64 (L[pre.length]?.getD 0)) := (hB.cell (p := ⟨g, off + pre.length, none⟩) hg').trans (hcell _ hlt)
      have dp : decide ((L.length : Int) ≤ (pre.length : Int)) = false := decide_eq_false (by omega)
      clear hA hcell eA1 eA2 eA3
      by_cases hx : x = L[pre.length]?.getD 0
      · have hnext : pre ++ [x] <+: L := by
          rw [hx]
          have e := take_next L hlt
          rw [← htake] at e
          rw [← e]
          exact List.take_prefix _ _
        have HN := Lib.hid hnext
        have hl1 : ((pre ++ [x]).length : Int) = (pre.length : Int) + 1 := by rw [List.length_append]; rfl
        have HL1 := Lib.hid hl1
        have HT : Hid (Told V.heap.size V (pre ++ [x]) (W.setCell ⟨V.heap.size, 0, none⟩ (.int .i64 ((pre.length : Int) + 1)))) := by
          refine ⟨?_, hB.setCell (Nat.le_refl _) _⟩
          rw [hl1]
          exact hn.set_ 0 _
        have ex : ((x : Int) != L[pre.length]?.getD 0) = false := by rw [hx]; simp
        clear hx hnext hl1 htake
        generalize L[pre.length]?.getD 0 = y at *
        by_cases hm : many ≤ (pre.length : Int) + 1
        · have dm : decide (many ≤ (pre.length : Int) + 1) = true := decide_eq_true hm
          gi_wp2
          refine ⟨Keep.setCell _ (by simp) _, .inr ⟨⟨rfl, by rw [List.length_append]; simp, ?_, ?_, HN.out⟩, HT.out⟩⟩
          · rcases hcnd with h | h
            · left; rw [List.length_append, h]; rfl
            · right; rw [HL1.out]; omega
          · rw [HL1.out]; exact hm
        · have dm : decide (many ≤ (pre.length : Int) + 1) = false := decide_eq_false hm
          gi_wp2
          refine ⟨Keep.setCell _ (by simp) _, Keep.setFar _ (by simp; omega) _, ⟨HN.out, .inr ?_⟩, HT.out⟩
          rw [HL1.out]; omega
      · have HN := Lib.hid (not_prefix L pre.length x (fun _ => hx) hple)
        have ex : ((x : Int) != L[pre.length]?.getD 0) = true := by rw [bne_iff_ne]; exact hx
        have HTk := Lib.hid htake
        clear hx htake
        generalize L[pre.length]?.getD 0 = y at *
        gi_wp2
        exact ⟨Keep.setCell _ (by simp; omega) _, .inl ⟨rfl, by rw [HTk.out]; exact HN.out⟩⟩
    case done_0 =>
      rintro D ys W hD eys ⟨⟨hpre, hcnd⟩, hn, hB⟩ hKD
      obtain rfl := eys.symm
      have hmin : ((L.length : Int) != min (L.length : Int) (max 1 many)) = false := by
        rw [bne_eq_false_iff_eq]; rcases hcnd with h | h <;> omega
      have cn := hn.one
      have cwx := (f4.below hB f4.lt).one
      have cty := (ct.below hB ct.lt).one
      have cmx := (f2.below hB f2.lt).one
      have lt0 := hB.size
      gi_wp2
      all_goals
        obtain ⟨V1, hV1⟩ : ∃ V1, W.alloc (.cells #[.int .i64 1] 3) = V1 := ⟨_, rfl⟩
        rw [hV1]
        have hB1 : Below V.heap.size V V1 := by rw [← hV1]; exact hB.alloc hB.size _
        have ct1 : Blk V1 W.heap.size 3 #[.int .i64 (1 : Nat)] := by rw [← hV1]; exact Blk.new _ _ _
        have hlD := (Array.getElem?_eq_some_iff.1 hKD).1
        have hD1 : V1.heap[D]? = some (.deferred (some [])) := by rw [← hV1]; exact (Below.heap_alloc W _ D hlD).trans hKD
        have hL1 := hLeft.more hB1 (by have := hW.size; simp at hD; omega) (by simp at hD; omega) hD1
        have hz := fun (z9 z10 z35 z36 z37 z38 z39 z40 z41 z64 z65 z66 z67 z68 z69 z70 z71 z72 z73 z74 z75 z76 z77 z78 z79 z80 z81 z82 z83 z84 z85 : Value) hr => hK 1 [z9, z10, z35, z36, z37, z38, z39, z40, z41, z64, z65, z66, z67, z68, z69, z70, z71, z72, z73, z74, z75, z76, z77, z78, z79, z80, z81, z82, z83, z84, z85] (D :: Ds) V1 (by omega) hr
        simp only [sets, List.setIfInBounds_toArray, List.set_cons_zero, List.set_cons_succ] at hz
        refine hz _ _ _ _ _ _ _ _ _ _ _ _ _ _ _ _ _ _ _ _ _ _ _ _ _ _ _ _ _ _ _ ⟨1, W.heap.size, _, _, _, _, _, _, _, _, _, _, _, _, _, _, _, _, _, _, _, _, _, _, _, _, _, _, _, _, _, _, rfl, by omega, by omega, ct1, F.next hB1, hL1, below_in hBV hB1⟩
    case stop_0 =>
      rintro D c pre W hD hsp hor hKD
      rcases hor with ⟨rfl, h⟩ | ⟨⟨rfl, hx1, hx2, hx3, hpre⟩, hn, hB⟩
      · exact absurd hsp h
      have hple := hpre.length_le
      have hmin : ((pre.length : Int) != min (L.length : Int) (max 1 many)) = false := by
        rw [bne_eq_false_iff_eq]; rcases hx2 with h | h <;> omega
      have cn := hn.one
      have cwx := (f4.below hB f4.lt).one
      have cty := (ct.below hB ct.lt).one
      have cmx := (f2.below hB f2.lt).one
      have lt0 := hB.size
      gi_wp2
      all_goals
        obtain ⟨V1, hV1⟩ : ∃ V1, W.alloc (.cells #[.int .i64 1] 3) = V1 := ⟨_, rfl⟩
        rw [hV1]
        have hB1 : Below V.heap.size V V1 := by rw [← hV1]; exact hB.alloc hB.size _
        have ct1 : Blk V1 W.heap.size 3 #[.int .i64 (1 : Nat)] := by rw [← hV1]; exact Blk.new _ _ _
        have hlD := (Array.getElem?_eq_some_iff.1 hKD).1
        have hD1 : V1.heap[D]? = some (.deferred (some [])) := by rw [← hV1]; exact (Below.heap_alloc W _ D hlD).trans hKD
        have hL1 := hLeft.more hB1 (by have := hW.size; simp at hD; omega) (by simp at hD; omega) hD1
        have hz := fun (z9 z10 z35 z36 z37 z38 z39 z40 z41 z64 z65 z66 z67 z68 z69 z70 z71 z72 z73 z74 z75 z76 z77 z78 z79 z80 z81 z82 z83 z84 z85 : Value) hr => hK 1 [z9, z10, z35, z36, z37, z38, z39, z40, z41, z64, z65, z66, z67, z68, z69, z70, z71, z72, z73, z74, z75, z76, z77, z78, z79, z80, z81, z82, z83, z84, z85] (D :: Ds) V1 (by omega) hr
        simp only [sets, List.setIfInBounds_toArray, List.set_cons_zero, List.set_cons_succ] at hz
        refine hz _ _ _ _ _ _ _ _ _ _ _ _ _ _ _ _ _ _ _ _ _ _ _ _ _ _ _ _ _ _ _ ⟨1, W.heap.size, _, _, _, _, _, _, _, _, _, _, _, _, _, _, _, _, _, _, _, _, _, _, _, _, _, _, _, _, _, _, rfl, by omega, by omega, ct1, F.next hB1, hL1, below_in hBV hB1⟩

  · gi_wp2_with fail
    obtain ⟨kk, hg⟩ := HG.out.later (hBV.alloc hBV.size (.cells #[.int .i64 0] 3))
    have hnb : Blk (V.alloc (.cells #[.int .i64 0] 3)) V.heap.size 3 #[.int .i64 (([] : List Int).length : Int)] := Blk.new _ _ _
    refine wpIn_rangeOwn1 rfl (by omega) (gf := gf) (lb := lb) rfl trivial eg (hg _ (by omega)) (by simp; omega) (Below.refl _ _) (fun _ => rfl)
      (fun pre W => (pre <+: L ∧ True) ∧ Told V.heap.size V pre W)
      (fun c pre W => (c = .ret ∧ ¬ (pre <+: L)) ∨ (False ∧ Told V.heap.size V pre W))
      ((spares_pure _ _ _).and (told_spares _ _ _ _ (by simp) (by simp)))
      (fun c => told_if _ _ _ _ (by simp) (by simp) (fun pre => c = .ret ∧ ¬ (pre <+: L)) (fun pre => False))
      ⟨⟨List.nil_prefix, trivial⟩, hnb, (Below.refl _ _).alloc (Nat.le_refl _) _⟩
      ?a1_1 ?assign_1 ?body_1 ?done_1 ?stop_1
    case assign_1 =>
      intro l' x W K hK
      gi_wp2
      exact hK
    case body_1 =>
      rintro l' pre x W hsz ⟨⟨hpre, hcnd⟩, hn, hB⟩ hlt
      have hple := hpre.length_le
      have htake := List.prefix_iff_eq_take.1 hpre
      have cn := hn.one
      have fn := hn.frozen 0
      have cwx := (f4.below hB f4.lt).one
      have cty := (ct.below hB ct.lt).one
      have cmx := (f2.below hB f2.lt).one
      have crx := (f3.below hB f3.lt).one
      have frx := (f3.below hB f3.lt).frozen 0
      have hbs := hB.size
      obtain ⟨A', cap', eA, _, hA⟩ := f5
      injection eA with eA1 eA2 eA3
      obtain ⟨g, off, hAw, hg', hcell⟩ := hA (by omega)
      rw [← eA1] at hAw
      subst hAw
      have cx : W.cell? ⟨g, off + pre.length, none⟩ = some (.int .i64 (L[pre.length]?.getD 0)) := (hB.cell (p := ⟨g, off + pre.length, none⟩) hg').trans (hcell _ hlt)
      have dp : decide ((L.length : Int) ≤ (pre.length : Int)) = false := decide_eq_false (by omega)
      clear hA hcell eA1 eA2 eA3
      by_cases hx : x = L[pre.length]?.getD 0
      · have hnext : pre ++ [x] <+: L := by
          rw [hx]
          have e := take_next L hlt
          rw [← htake] at e
          rw [← e]
          exact List.take_prefix _ _
        have HN := Lib.hid hnext
        have hl1 : ((pre ++ [x]).length : Int) = (pre.length : Int) + 1 := by rw [List.length_append]; rfl
        have HL1 := Lib.hid hl1
        have HT : Hid (Told V.heap.size V (pre ++ [x]) (W.setCell ⟨V.heap.size, 0, none⟩ (.int .i64 ((pre.length : Int) + 1)))) := by
          refine ⟨?_, hB.setCell (Nat.le_refl _) _⟩
          rw [hl1]
          exact hn.set_ 0 _
        have ex : ((x : Int) != L[pre.length]?.getD 0) = false := by rw [hx]; simp
        clear hx hnext hl1 htake
        generalize L[pre.length]?.getD 0 = y at *
        gi_wp2
        exact ⟨Keep.setCell _ (by simp) _, Keep.setFar _ (by simp; omega) _, ⟨HN.out, trivial⟩, HT.out⟩
      · have HN := Lib.hid (not_prefix L pre.length x (fun _ => hx) hple)
        have ex : ((x : Int) != L[pre.length]?.getD 0) = true := by rw [bne_iff_ne]; exact hx
        have HTk := Lib.hid htake
        clear hx htake
        generalize L[pre.length]?.getD 0 = y at *
        gi_wp2
        exact ⟨Keep.setCell _ (by simp; omega) _, .inl ⟨rfl, by rw [HTk.out]; exact HN.out⟩⟩
    case done_1 =>
      rintro D ys W hD eys ⟨⟨hpre, hcnd⟩, hn, hB⟩ hKD
      obtain rfl := eys.symm
      have hne : ((L.length : Int) != (L.length : Int)) = false := by simp
      have cn := hn.one
      have cwx := (f4.below hB f4.lt).one
      have cty := (ct.below hB ct.lt).one
      have cmx := (f2.below hB f2.lt).one
      have lt0 := hB.size
      gi_wp2
      all_goals
        obtain ⟨V1, hV1⟩ : ∃ V1, W.alloc (.cells #[.int .i64 2] 3) = V1 := ⟨_, rfl⟩
        rw [hV1]
        have hB1 : Below V.heap.size V V1 := by rw [← hV1]; exact hB.alloc hB.size _
        have ct1 : Blk V1 W.heap.size 3 #[.int .i64 (2 : Nat)] := by rw [← hV1]; exact Blk.new _ _ _
        have hlD := (Array.getElem?_eq_some_iff.1 hKD).1
        have hD1 : V1.heap[D]? = some (.deferred (some [])) := by rw [← hV1]; exact (Below.heap_alloc W _ D hlD).trans hKD
        have hL1 := hLeft.more hB1 (by have := hW.size; simp at hD; omega) (by simp at hD; omega) hD1
        have hz := fun (z9 z10 z35 z36 z37 z38 z39 z40 z41 z64 z65 z66 z67 z68 z69 z70 z71 z72 z73 z74 z75 z76 z77 z78 z79 z80 z81 z82 z83 z84 z85 : Value) hr => hK 0 [z9, z10, z35, z36, z37, z38, z39, z40, z41, z64, z65, z66, z67, z68, z69, z70, z71, z72, z73, z74, z75, z76, z77, z78, z79, z80, z81, z82, z83, z84, z85] (D :: Ds) V1 (by omega) hr
        simp only [sets, List.setIfInBounds_toArray, List.set_cons_zero, List.set_cons_succ] at hz
        refine hz _ _ _ _ _ _ _ _ _ _ _ _ _ _ _ _ _ _ _ _ _ _ _ _ _ _ _ _ _ _ _ ⟨2, W.heap.size, _, _, _, _, _, _, _, _, _, _, _, _, _, _, _, _, _, _, _, _, _, _, _, _, _, _, _, _, _, _, rfl, by omega, by omega, ct1, F.next hB1, hL1, below_in hBV hB1⟩
    case stop_1 =>
      rintro D c pre W hD hsp hor hKD
      rcases hor with ⟨rfl, h⟩ | ⟨h, _⟩
      · exact absurd hsp h
      · exact h.elim

  · have c0 : V.cell? ⟨w.heap.size, 0, none⟩ = some (.int .i64 x0) := f1.cell 0
    have c1 : V.cell? ⟨w.heap.size, 1, none⟩ = some (.int .i64 x1) := f1.cell 1
    have c2 : V.cell? ⟨w.heap.size, 2, none⟩ = some (.int .i64 x2) := f1.cell 2
    gi_wp2_with fail
    refine ⟨trivial, (callsIn_wide.2 (HM.out V f6)).mono ?_⟩
    rintro e w8 ⟨rfl, hB8⟩
    have F8 := F.next hB8
    have hW8 := below_in hW hB8
    have hLeft8 := hLeft.below hB8
    clear F f1 f2 f3 f4 f5 f6 c0 c1 c2 ctx hLeft hBV hB8 hW ct HM
    obtain ⟨f1, f2, f3, f4, f5, f6⟩ := id F8
    have c2 : w8.cell? ⟨w.heap.size, 2, none⟩ = some (.int .i64 x2) := f1.cell 2
    have c4 := f4.one
    have n0 : ((L.length : Int) == 0) = false := by rw [beq_eq_false_iff_ne]; have := HLen.out; omega
    have HAt := Lib.hid (fun W => at_any P x2 W)
    have hem := HEM.out
    by_cases h2 : 0 ≤ x2 ∧ x2 < P
    · rw [if_pos h2] at hem
      rw [decide_eq_true h2] at HAt
      by_cases hm : x2 ∈ L
      · rw [if_pos hm] at hem
        rw [hem]
        have hq : rmeetN x2 L = ((ahead x2 L : Nat) : Int) := if_pos hm
        rw [hq] at HQ
        clear hem hq hm
        generalize ahead x2 L = k at *
        have hk0 : decide ((k : Int) < 0) = false := by simp
        have hk1 : ((k : Int) == (k : Int)) = true := by simp
        gi_wp2_with (refine ⟨trivial, ?_⟩; gi_at_call 15; refine (callsIn_wide.2 (HAt.out _)).mono ?_; rintro e w' ⟨rfl, rfl⟩; have c0 : w8.cell? ⟨w.heap.size, 0, none⟩ = some (.int .i64 x0) := f1.cell 0; have c1 : w8.cell? ⟨w.heap.size, 1, none⟩ = some (.int .i64 x1) := f1.cell 1)
        refine ⟨trivial, (callsIn_wide.2 (HQ.out w8)).mono ?_⟩
        rintro e w9 ⟨rfl, hB9⟩
        have g3 := f3.below hB9 f3.lt
        have hL9 := f6.next hB9
        have hW9 := below_in hW8 hB9
        have hLeft9 := hLeft8.below hB9
        clear f6
        gi_wp2_with (refine ⟨trivial, ?_⟩; (first
          | (gi_at_call 12; refine (callsIn_wide.2 (num_any _ _)).mono ?_; rintro e w' ⟨rfl, rfl⟩)
          | (gi_at_call 20; refine (callsIn_wide.2 (works_any _ hL9)).mono ?_; rintro e wf ⟨rfl, hBf⟩; have crx := (g3.below hBf g3.lt).one; have frx := (g3.below hBf g3.lt).frozen 0)))
        have h3 : Blk (wf.setCell ⟨w.heap.size + 1 + 1, 0, none⟩ (.bool true)) (w.heap.size + 1 + 1) 4 #[.bool true] := (g3.below hBf g3.lt).set_ 0 _
        refine leaves_blks w Ds _ ((hLeft9.below hBf).set_ _ _) ((below_in hW9 hBf).setCell (by simp; omega) _) fun W' hB' hk => ?_
        have cr := (hk _ _ _ h3).one
        exact ⟨.bool true, by simp [results, Tryd.results5, go_sem, cr], rfl, hB'⟩
      · rw [if_neg hm] at hem
        rw [hem]
        have hq : rmeetN x2 L = -1 := if_neg hm
        rw [hq] at HQ
        clear hem hq hm
        gi_wp2_with (refine ⟨trivial, ?_⟩; gi_at_call 15; refine (callsIn_wide.2 (HAt.out _)).mono ?_; rintro e w' ⟨rfl, rfl⟩; have c0 : w8.cell? ⟨w.heap.size, 0, none⟩ = some (.int .i64 x0) := f1.cell 0; have c1 : w8.cell? ⟨w.heap.size, 1, none⟩ = some (.int .i64 x1) := f1.cell 1)
        refine ⟨trivial, (callsIn_wide.2 (HQ.out w8)).mono ?_⟩
        rintro e w9 ⟨rfl, hB9⟩
        have g3 := f3.below hB9 f3.lt
        have hL9 := f6.next hB9
        have hW9 := below_in hW8 hB9
        have hLeft9 := hLeft8.below hB9
        clear f6
        gi_wp2_with (refine ⟨trivial, ?_⟩; (first
          | (gi_at_call 12; refine (callsIn_wide.2 (num_any _ _)).mono ?_; rintro e w' ⟨rfl, rfl⟩)
          | (gi_at_call 20; refine (callsIn_wide.2 (works_any _ hL9)).mono ?_; rintro e wf ⟨rfl, hBf⟩; have crx := (g3.below hBf g3.lt).one; have frx := (g3.below hBf g3.lt).frozen 0)))
        have h3 : Blk (wf.setCell ⟨w.heap.size + 1 + 1, 0, none⟩ (.bool true)) (w.heap.size + 1 + 1) 4 #[.bool true] := (g3.below hBf g3.lt).set_ 0 _
        refine leaves_blks w Ds _ ((hLeft9.below hBf).set_ _ _) ((below_in hW9 hBf).setCell (by simp; omega) _) fun W' hB' hk => ?_
        have cr := (hk _ _ _ h3).one
        exact ⟨.bool true, by simp [results, Tryd.results5, go_sem, cr], rfl, hB'⟩
    · rw [if_neg h2] at hem
      rw [decide_eq_false h2] at HAt
      rw [hem]
      clear hem
      gi_wp2_with (refine ⟨trivial, ?_⟩; (first
        | (gi_at_call 15; refine (callsIn_wide.2 (HAt.out _)).mono ?_; rintro e w' ⟨rfl, rfl⟩)
        | (gi_at_call 12; refine (callsIn_wide.2 (num_any _ _)).mono ?_; rintro e w' ⟨rfl, rfl⟩)
        | (gi_at_call 20; refine (callsIn_wide.2 (works_any _ f6)).mono ?_; rintro e wf ⟨rfl, hBf⟩; have crx := (f3.below hBf f3.lt).one; have frx := (f3.below hBf f3.lt).frozen 0)))
      have h3 : Blk (wf.setCell ⟨w.heap.size + 1 + 1, 0, none⟩ (.bool true)) (w.heap.size + 1 + 1) 4 #[.bool true] := (f3.below hBf f3.lt).set_ 0 _
      refine leaves_blks w Ds _ ((hLeft8.below hBf).set_ _ _) ((below_in hW8 hBf).setCell (by simp; omega) _) fun W' hB' hk => ?_
      have cr := (hk _ _ _ h3).one
      exact ⟨.bool true, by simp [results, Tryd.results5, go_sem, cr], rfl, hB'⟩
end Go.Proofs.YtoljflkfhdaipaaDoor.modWalks
