/- CellsHolds where there is something to hold. -/
import Derived.Test.YtjkpmhannmbgfaaCHoldKit
namespace Go.Proofs.Ytjkpmhannmbgfaa.cellsHolds
open Go.ChangeShapes Go.WideShapes Go.ChangeAt Go.RowKit Go.Shelf
set_option linter.unusedVariables false

attribute [local go_sem] Oper.semAt_some
set_option maxRecDepth 100000 in
set_option maxHeartbeats 1000000 in
theorem holdsM (v : Value) (ls : List (List UInt8)) (k bt : Int) (w : World) (hM : Many w.heap.size w v ls) (hf : Few ls) (h1 : 0 ≤ k) (h2 : k < (ls.length : Int)) (h3 : 0 ≤ bt) (h4 : bt < 512) (hx : XorOk ls) (wk1 : -9223372036854775808 ≤ k) (wk2 : k ≤ 9223372036854775807) (wb1 : -9223372036854775808 ≤ bt) (wb2 : bt ≤ 9223372036854775807) :
    Calls Try.prog 7 #[v, .int .i64 k, .int .i64 bt] w fun e w' => e = .returned (.bool true) ∧ Below w.heap.size w w' := by
  refine (callsIn_wide (n := 5)).1 ?_
  refine callsIn_of_wp_marks Try.func7 rfl trivial ?_ rfl
  simp only [Try.ntmps7, List.size_toArray, List.length_cons, List.length_nil, Nat.reduceAdd, Nat.reduceSub, Array.replicate_succ, Array.replicate_zero, List.push_toArray, List.append_toArray, List.nil_append, List.cons_append]
  obtain ⟨W0, hW0⟩ : ∃ W0, w.alloc (.cells #[.int .i64 bt] 3) = W0 := ⟨_, rfl⟩
  have b0 : Blk W0 w.heap.size 3 #[.int .i64 bt] := by rw [← hW0]; exact Blk.new w _ _
  have hB0 : Below w.heap.size w W0 := by rw [← hW0]; exact (Below.refl _ w).alloc (Nat.le_refl _) _
  have hs0 : W0.heap.size = w.heap.size + 1 := by rw [← hW0]; simp
  have cb0 := b0.one
  have HF := Lib.hid (few_any v ls W0 (hM.below hB0) true ⟨fun _ => hf, fun _ => rfl⟩)
  have d1 : decide (k < 0) = false := decide_eq_false (by omega)
  have d2 : decide ((ls.length : Int) ≤ k) = false := decide_eq_false (by omega)
  have d3 : decide (bt < 0) = false := decide_eq_false (by omega)
  have d4 : decide (512 ≤ bt) = false := decide_eq_false (by omega)
  obtain ⟨b, rfl⟩ : ∃ b : Nat, bt = (b : Int) := ⟨bt.toNat, by omega⟩
  obtain ⟨kn, rfl⟩ : ∃ kn : Nat, k = (kn : Int) := ⟨k.toNat, by omega⟩
  have HX := Lib.hid (xor_yes ls v W0 hB0.size (hM.below hB0) (by have := hf.1; omega) hx)
  have hef : ∀ (g : Nat) (W : World), (binOp .eql 38 (.func (.func 53) #[] #[.pointer (some ⟨g, 0, none⟩)]) .nilFunc).run Try.prog W = .ok (.bool false) W := fun g W => by kernel_rfl
  obtain ⟨A, cap, rfl, hcap, hA⟩ := hM
  obtain ⟨bq, off, rfl, hbq, hcell⟩ := hA (by omega)
  have HC := Lib.hid hcell
  have h40 := hf.1
  have HCell : Hid (∀ j, j < ls.length → Cell (ls[j]?.getD [])) := by
    obtain ⟨_, hc, hal⟩ := hx
    intro j hj
    unfold Cell at hc ⊢
    rw [hal j hj]; exact hc
  clear hA hcell
  gi_wp2_with fail
  try rw [hW0]
  clear hW0
  gi_wp2_with (refine ⟨trivial, ?_⟩; first
    | (gi_at_call 10; refine (callsIn_wide.2 HF.out).mono ?_; rintro e w' ⟨rfl, rfl⟩)
    | (gi_at_call 14; refine (callsIn_wide.2 (num_any _ _)).mono ?_; rintro e w' ⟨rfl, rfl⟩))
  refine ⟨trivial, (callsIn_wide.2 HX.out).mono ?_⟩
  rintro e w1 ⟨va, rfl, hFa, hB01⟩
  obtain ⟨Aa, ca, rfl⟩ := hFa.bytes.form rfl
  have hFb := hFa.bytes
  clear HX HF hFa
  gi_wp2_with (refine ⟨trivial, ?_⟩; first
    | (gi_at_call 14; refine (callsIn_wide.2 (num_any _ _)).mono ?_; rintro e w' ⟨rfl, rfl⟩))
  obtain ⟨w2, hw2⟩ : ∃ w2, w1.alloc (.cells #[.bool false] 4) = w2 := ⟨_, rfl⟩
  have hB12 : Below w1.heap.size w1 w2 := by rw [← hw2]; exact (Below.refl _ w1).alloc (Nat.le_refl _) _
  have bh2 : Blk w2 w1.heap.size 4 #[.bool false] := by rw [← hw2]; exact Blk.new _ _ _
  have hwr : wrap64 ((ls.length : Int) - 1) = (ls.length : Int) - 1 := by
    unfold wrap64; omega
  rw [hw2]
  try rw [hwr]
  have hS2 : Stand w w2 (.slice Aa (xorOf ls).length ca) (xorOf ls) (b : Int) w1.heap.size false :=
    ⟨Below.next (Below.next hB0 hB01) hB12, (b0.below hB01 b0.lt).below hB12 (Nat.lt_of_lt_of_le b0.lt hB01.size), bh2, hFb.below hB12, by have := hB01.size; omega⟩
  obtain ⟨hb, hhb⟩ : ∃ hb, w1.heap.size = hb := ⟨_, rfl⟩
  rw [hhb] at hS2 ⊢
  clear hw2 hwr hB12 bh2 hFb hB01 hB0 hs0 cb0 b0 hhb
  refine loop_left [9, 11, 12, 51, 52, 55, 56, 57, 58, 59, 60, 61, 62, 63, 64, 65, 66, 67, 68, 69, 70, 71, 72, 73, 74, 75, 76, 77, 78, 53, 54] (fun m vs Ds W => ∃ (vt : Value) (x12 x51 x52 x55 x56 x57 x58 x59 x60 x61 x62 x63 x64 x65 x66 x67 x68 x69 x70 x71 x72 x73 x74 x75 x76 x77 x78 x53 x54 : Value), vs = [vt, .int .i64 ((m : Int) - 1), x12, x51, x52, x55, x56, x57, x58, x59, x60, x61, x62, x63, x64, x65, x66, x67, x68, x69, x70, x71, x72, x73, x74, x75, x76, x77, x78, x53, x54] ∧ m ≤ ls.length ∧ OwnR W w.heap.size (hb + 1) vt (ls.drop m).reverse ∧ Stand w W (.slice Aa (xorOf ls).length ca) (xorOf ls) (b : Int) hb ((ls.drop m).reverse.foldl (fun h l => h != bitAt l b) false) ∧ Left w.heap.size W Ds) ls.length
    [.slice none 0 0, .int .i64 ((ls.length : Int) - 1), undef, undef, undef, undef, undef, undef, undef, undef, undef, undef, undef, undef, undef, undef, undef, undef, undef, undef, undef, undef, undef, undef, undef, undef, undef, undef, undef, undef, undef] (by kernel_rfl) ⟨_, _, _, _, _, _, _, _, _, _, _, _, _, _, _, _, _, _, _, _, _, _, _, _, _, _, _, _, _, _, rfl, Nat.le_refl _, by rw [List.drop_length]; exact ownR_nil _ _ _, by rw [List.drop_length]; exact hS2, Left.nil _ _⟩ ?_
  clear hS2
  rintro m vs Ds W ⟨vt, x12, x51, x52, x55, x56, x57, x58, x59, x60, x61, x62, x63, x64, x65, x66, x67, x68, x69, x70, x71, x72, x73, x74, x75, x76, x77, x78, x53, x54, rfl, hm, hR, hS, hL⟩ K hK
  simp only [sets, List.setIfInBounds_toArray, List.set_cons_zero, List.set_cons_succ]
  have hwb := hS.2.2.2.2
  have hbW := hS.2.2.1.lt
  rcases m with _ | m
  · have dz : decide ((0 : Int) ≤ ((0 : Nat) : Int) - 1) = false := by simp
    rw [List.drop_zero] at hR hS
    rw [← bitAt_xorOf ls b ((allLen_iff _ _).1 hx.2.2)] at hS
    have hxc : Hid (Cell (xorOf ls)) := by
      have := hx.2.1
      show Cell _
      unfold Cell at this ⊢; rw [xorOf_len]; exact this
    obtain ⟨vals, hV, hvl, hvb⟩ := hR
    obtain ⟨u, hu, hub⟩ := HC.out kn (by omega)
    have hcn : (ls[kn]?.getD []).length = (ls[0]?.getD []).length := hx.2.2 kn (by omega)
    have HXO := Lib.hid (xorOk_turned ls _ hx hcn)
    have HXE := Lib.hid (xorOf_turned ls _ hcn)
    have HXL : Hid ((ls[kn]?.getD [] :: ls.reverse ++ [ls[kn]?.getD []]).length ≤ 140737488351232) := by
      show _ ≤ _
      simp; omega
    have hrl : ls.reverse.length = ls.length := List.length_reverse
    have hvn : vals.length ≤ 1000 := by omega
    have hone : ∀ u ∈ vals, u.oneCell' = true := by
      intro y hy
      obtain ⟨j, hj, rfl⟩ := List.mem_iff_getElem.1 hy
      have := hvb j (by omega)
      rw [List.getElem?_eq_getElem hj] at this
      obtain ⟨A', cap', e, _⟩ := this
      show vals[j].oneCell' = true
      rw [show vals[j] = _ from e]; rfl
    obtain ⟨At, ct, rfl, hct, hAt⟩ := hV.cells
    obtain ⟨gt, rfl, _, hgt, htc⟩ := hAt (by omega)
    have HB3 := Lib.hid (ends hvl hvb (hub.below hS.1))
    generalize ls[kn]?.getD [] = c at *
    obtain ⟨Ak, ck, rfl, _⟩ := id hub
    have HK : Hid (∀ V, Below W.heap.size W V → V.cell? ⟨bq, off + kn, none⟩ = some (.slice Ak c.length ck)) := fun V hVb => ((hS.1.trans (hVb.mono hS.1.size)).cell (p := ⟨bq, off + kn, none⟩) hbq).trans hu
    have HXX := Lib.hid (fun (V : World) (v : Value) (hM : Many V.heap.size V v (c :: ls.reverse ++ [c])) => xor_yes _ v V (Nat.le_refl _) hM HXL.out HXO.out)
    rw [HXE.out] at HXX
    have i1 : (0 : Int) ≤ (kn : Int) := by omega
    have hk0 : W.cell? ⟨bq, off + kn, none⟩ = some (.slice Ak c.length ck) := HK.out W (Below.refl _ _)
    have HVL := Lib.hid (hvl.trans hrl)
    clear hvl hrl hcn hx hvb hub hu
    gi_wp2
    refine wpIn_wide.2 ?_
    go_region_held3 (fun V => V.cell? ⟨bq, off + kn, none⟩ = some (.slice Ak c.length ck))
      (first | exact HK.out _ (Below.refl _ W).drew | exact HK.out _ (below_one W _) | exact HK.out _ (below_two W _ _) | exact HK.out _ hB3 | exact HK.out _ (hB3.alloc hB3.size _) | exact HK.out _ hB4 | exact HK.out _ hB5) (first
      | (refine step_all (by rfl) (.tmp 84) (.tmp 85) (by rfl) W (below_one W _) W.heap.size (Nat.le_refl _) _ (blk_one W _ _) (by rfl) gt ct (hb + 1) vals (by rfl) hgt htc hone hvn ?_; intro v3 w3 hV3 hB3 hg3)
      | (refine step_all (by rfl) (.tmp 84) (.tmp 85) (by rfl) W (below_two W _ _) W.heap.size (Nat.le_refl _) _ (blk_first W _ _ _) (by rfl) gt ct (hb + 1) vals (by rfl) hgt htc hone hvn ?_; intro v3 w3 hV3 hB3 hg3)
      | (refine step_all (by rfl) (.tmp 84) (.tmp 85) (by rfl) W (below_two W _ _) (W.heap.size + 1) (by omega) _ (blk_second W _ _ _) (by rfl) gt ct (hb + 1) vals (by rfl) hgt htc hone hvn ?_; intro v3 w3 hV3 hB3 hg3)
      | (refine step_last (by rfl) (.tmp 86) (.tmp 91) (by rfl) W (hB3.alloc hB3.size _) v3 _ (by rfl) (hV3.grown_ (World.grownBy_alloc _ _ _)) w3.heap.size _ (Blk.new w3 _ _) (by rfl) (by rfl) (by have := HVL.out; simp; omega) ?_; intro v4 w4 hV4 hB4)
      | (refine step_last (by rfl) (.tmp 86) (.tmp 91) (by rfl) W hB3 v3 _ (by rfl) hV3 (W.heap.size + 1) _ ((blk_second W _ _ _).grown hg3 (by simp)) (by rfl) (by rfl) (by have := HVL.out; simp; omega) ?_; intro v4 w4 hV4 hB4)
      | (refine step_last (by rfl) (.tmp 86) (.tmp 91) (by rfl) W hB3 v3 _ (by rfl) hV3 W.heap.size _ ((blk_first W _ _ _).grown hg3 (by simp)) (by rfl) (by rfl) (by have := HVL.out; simp; omega) ?_; intro v4 w4 hV4 hB4)
      | (go_at_call 12; refine (HXX.out w4 v4 (many_of hV4 (by have := HVL.out; simp; omega) (fun j hj => (HB3.out j hj).below (hB4.mono hS.1.size)) (Nat.le_trans hS.1.size hB4.size))).mono ?_; rintro e w5 ⟨v5, rfl, hF5, hB45⟩; have hB5 := Below.next hB4 hB45))
    · obtain ⟨Ab, cb, rfl⟩ := hF5.bytes.form rfl
      have hS5 := hS.next hB5
      have hL5 := hL.below hB5
      have hBb := hF5.bytes
      clear hS hL hF5 hV3 hV4 hB3 hB4 hg3 hB45 hB5 hk0 HK HXX HB3 hV hone hgt htc hct hvn
      gi_wp2_with fail
      obtain ⟨w6, hw6⟩ : ∃ w6, w5.alloc (.cells #[.bool false] 4) = w6 := ⟨_, rfl⟩
      have hB56 : Below w5.heap.size w5 w6 := by rw [← hw6]; exact (Below.refl _ w5).alloc (Nat.le_refl _) _
      have bi6 : Blk w6 w5.heap.size 4 #[.bool false] := by rw [← hw6]; exact Blk.new _ _ _
      rw [hw6]
      clear hw6
      have hS6 := hS5.next hB56
      have hL6 := hL5.below hB56
      have hBb6 := hBb.below hB56
      have hbi : hb < w5.heap.size := hS5.2.2.1.lt
      obtain ⟨hi, hhi⟩ : ∃ hi, w5.heap.size = hi := ⟨_, rfl⟩
      rw [hhi] at bi6 hBb6 hbi ⊢
      clear hS5 hL5 hBb hB56 hhi
      refine ⟨trivial, (callsIn_wide.2 (bitsOf_any _ _ w6 (hS6.2.2.2.1.more (Nat.le_of_lt hS6.2.2.1.lt)))).mono ?_⟩
      rintro e w7 ⟨gs, vs, rfl, _, _, _, hB7⟩
      have hS7 := hS6.next hB7
      have hL7 := hL6.below hB7
      have bi7 := bi6.below hB7 bi6.lt
      have hBb7 := hBb6.below (hB7.mono (Nat.le_of_lt bi6.lt))
      clear hS6 hL6 bi6 hBb6 hB7
      gi_wp2_with fail
      refine ⟨trivial, (callsIn_wide.2 (bitsOf_any _ _ w7 (hS7.2.2.2.1.more (Nat.le_of_lt hS7.2.2.1.lt)))).mono ?_⟩
      rintro e V ⟨gs2, vs2, rfl, hgs2, cs2, hF2, hB8⟩
      rw [show cellBytes (xorOf ls) = xorOf ls from if_pos hxc.out] at hF2
      have hS8 := hS7.next hB8
      have hL8 := hL7.below hB8
      have bi8 := bi7.below hB8 bi7.lt
      have hi7 := bi7.lt
      have hBb8 := hBb7.below (hB8.mono (Nat.le_of_lt bi7.lt))
      have hwb8 := hS8.2.2.2.2
      clear hS7 hL7 bi7 hBb7 hB8
      gi_wp2_with fail
      have hl64 := hxc.out.2
      refine wpIn_rangeFunc_ownG rfl (by omega) (gf := 53) (lb := #[.pointer (some ⟨gs2, 0, none⟩)]) rfl trivial enter_bits1
        (bits_stops _ (by omega) gs2 (fun q => q < V.heap.size ∧ q ≠ hi) _ (xorOf ls) (by omega) V cs2.lt (fun q h => h.1) cs2.one (fresh_toP hF2 (fun q h1 h2 => ⟨h2, by omega⟩))) Keeps.trans (keeps_put (fun q h => h.1)) (Below.refl _ _) (fun _ => rfl)
        (Turn V hi (fun h y => h || (y == b)) false) (fun _ _ _ => False) (turn_own _ _ _ _ _ (Nat.le_refl _)) (fun _ => ownFrom_pure _ (fun _ => False)) ⟨World.grownBy.refl _ _, bi8⟩
        ?a1_A ?assign_A ?body_A ?done_A ?stop_A
      case assign_A =>
        intro l' x W K hK
        gi_wp2
        exact hK
      case body_A =>
        rintro l' pre x W2 hT _
        have cbit := (hS8.2.1.grown hT.1 (fun e => by injection e with e; omega)).one
        have ch := hT.2.one
        have fh := hT.2.frozen 0
        have HS := Lib.hid (fun c hc => hT.set_ x c hc)
        have hkf : ∀ u v, KeepsFrom V.heap.size W2 (W2.setCell u v) := fun u v => (KeepsOthers.setCell _ _ _).from _
        have hkp : ∀ v, Keeps (fun q => q < V.heap.size ∧ q ≠ hi) W2 (W2.setCell ⟨hi, 0, none⟩ v) := fun v q hq => Below.heap_setCell _ _ _ q hq.2
        clear hT
        generalize pre.foldl _ _ = hh at *
        by_cases hx : x = b
        · have ex := bit_eq x b hx
          have exn : (x == b) = true := by simpa using hx
          clear hx
          cases hh
          · gi_wp2
            exact ⟨hkf _ _, hkp _, HS.out _ (by rw [exn]; rfl)⟩
          · gi_wp2
            exact ⟨hkf _ _, hkp _, HS.out _ (by rw [exn]; rfl)⟩
        · have ex := bit_ne x b hx
          have exn : (x == b) = false := by simpa using hx
          clear hx
          cases hh
          · gi_wp2
            exact ⟨hkf _ _, hkp _, HS.out _ (by rw [exn]; rfl)⟩
          · gi_wp2
            exact ⟨hkf _ _, hkp _, HS.out _ (by rw [exn]; rfl)⟩
      case done_A =>
        rintro D ys W3 hD rfl ⟨hTg, hTb⟩ hKD
        rw [places_has, Bool.false_or] at hTb
        have hS9 := hS8.grown hTg (fun g e => by injection e with e; omega)
        have hL9 := left_grown hL8 hTg (fun g e => by injection e with e; subst e; exact ⟨_, _, _, bi8⟩)
        have hL : Left w.heap.size W3 (D :: Ds) := ⟨List.nodup_cons.2 ⟨fun hm => by have := hL8.lt hm; omega, hL9.1⟩, fun E hE => by
          rcases List.mem_cons.1 hE with rfl | hE
          · exact ⟨by have := hS8.1.size; omega, hKD⟩
          · exact hL9.2 E hE⟩
        have hBb9 := hBb8.below ((Below.refl hi V).grown hTg (Nat.le_of_lt bi8.lt) (fun g e => by injection e with e; omega))
        have hta := txt_in hS9.2.2.2.1 W3 (Below.refl _ _)
        have htb := txt_in hBb9 W3 (Below.refl _ _)
        have ci := hTb.one
        have ch := hS9.2.2.1.one
        have HS9 := Lib.hid hS9.1
        clear hS8 hL8 hL9 hTg hTb hKD hS9 hBb8 hBb9 bi8
        generalize text (xorOf ls) = tx at hta htb
        generalize bitAt (xorOf ls) b = bb at *
        have ebb : (bb == bb) = true := by cases bb <;> rfl
        gi_wp2_with (refine ⟨trivial, ?_⟩; first
          | (gi_at_call 14; refine (callsIn_wide.2 (num_any _ _)).mono ?_; rintro e w' ⟨rfl, rfl⟩)
          | (gi_at_call 11; refine (callsIn_wide.2 (works_any _)).mono ?_; rintro e wf ⟨rfl, hBf⟩))
        exact leaves_left w (D :: Ds) wf (hL.below hBf) (Below.next HS9.out hBf) (fun W' hB' => ⟨_, results_tmp rfl _ _ _, rfl, hB'⟩)
      case stop_A =>
        rintro D c pre W3 hD hsp hx hKD
        exact hx.elim
    · obtain ⟨Ab, cb, rfl⟩ := hF5.bytes.form rfl
      have hS5 := hS.next hB5
      have hL5 := hL.below hB5
      have hBb := hF5.bytes
      clear hS hL hF5 hV3 hV4 hB3 hB4 hg3 hB45 hB5 hk0 HK HXX HB3 hV hone hgt htc hct hvn
      gi_wp2_with fail
      obtain ⟨w6, hw6⟩ : ∃ w6, w5.alloc (.cells #[.bool false] 4) = w6 := ⟨_, rfl⟩
      have hB56 : Below w5.heap.size w5 w6 := by rw [← hw6]; exact (Below.refl _ w5).alloc (Nat.le_refl _) _
      have bi6 : Blk w6 w5.heap.size 4 #[.bool false] := by rw [← hw6]; exact Blk.new _ _ _
      rw [hw6]
      clear hw6
      have hS6 := hS5.next hB56
      have hL6 := hL5.below hB56
      have hBb6 := hBb.below hB56
      have hbi : hb < w5.heap.size := hS5.2.2.1.lt
      obtain ⟨hi, hhi⟩ : ∃ hi, w5.heap.size = hi := ⟨_, rfl⟩
      rw [hhi] at bi6 hBb6 hbi ⊢
      clear hS5 hL5 hBb hB56 hhi
      refine ⟨trivial, (callsIn_wide.2 (bitsOf_any _ _ w6 (hS6.2.2.2.1.more (Nat.le_of_lt hS6.2.2.1.lt)))).mono ?_⟩
      rintro e w7 ⟨gs, vs, rfl, _, _, _, hB7⟩
      have hS7 := hS6.next hB7
      have hL7 := hL6.below hB7
      have bi7 := bi6.below hB7 bi6.lt
      have hBb7 := hBb6.below (hB7.mono (Nat.le_of_lt bi6.lt))
      clear hS6 hL6 bi6 hBb6 hB7
      gi_wp2_with fail
      refine ⟨trivial, (callsIn_wide.2 (bitsOf_any _ _ w7 (hS7.2.2.2.1.more (Nat.le_of_lt hS7.2.2.1.lt)))).mono ?_⟩
      rintro e V ⟨gs2, vs2, rfl, hgs2, cs2, hF2, hB8⟩
      rw [show cellBytes (xorOf ls) = xorOf ls from if_pos hxc.out] at hF2
      have hS8 := hS7.next hB8
      have hL8 := hL7.below hB8
      have bi8 := bi7.below hB8 bi7.lt
      have hi7 := bi7.lt
      have hBb8 := hBb7.below (hB8.mono (Nat.le_of_lt bi7.lt))
      have hwb8 := hS8.2.2.2.2
      clear hS7 hL7 bi7 hBb7 hB8
      gi_wp2_with fail
      have hl64 := hxc.out.2
      refine wpIn_rangeFunc_ownG rfl (by omega) (gf := 53) (lb := #[.pointer (some ⟨gs2, 0, none⟩)]) rfl trivial enter_bits1
        (bits_stops _ (by omega) gs2 (fun q => q < V.heap.size ∧ q ≠ hi) _ (xorOf ls) (by omega) V cs2.lt (fun q h => h.1) cs2.one (fresh_toP hF2 (fun q h1 h2 => ⟨h2, by omega⟩))) Keeps.trans (keeps_put (fun q h => h.1)) (Below.refl _ _) (fun _ => rfl)
        (Turn V hi (fun h y => h || (y == b)) false) (fun _ _ _ => False) (turn_own _ _ _ _ _ (Nat.le_refl _)) (fun _ => ownFrom_pure _ (fun _ => False)) ⟨World.grownBy.refl _ _, bi8⟩
        ?a1_B ?assign_B ?body_B ?done_B ?stop_B
      case assign_B =>
        intro l' x W K hK
        gi_wp2
        exact hK
      case body_B =>
        rintro l' pre x W2 hT _
        have cbit := (hS8.2.1.grown hT.1 (fun e => by injection e with e; omega)).one
        have ch := hT.2.one
        have fh := hT.2.frozen 0
        have HS := Lib.hid (fun c hc => hT.set_ x c hc)
        have hkf : ∀ u v, KeepsFrom V.heap.size W2 (W2.setCell u v) := fun u v => (KeepsOthers.setCell _ _ _).from _
        have hkp : ∀ v, Keeps (fun q => q < V.heap.size ∧ q ≠ hi) W2 (W2.setCell ⟨hi, 0, none⟩ v) := fun v q hq => Below.heap_setCell _ _ _ q hq.2
        clear hT
        generalize pre.foldl _ _ = hh at *
        by_cases hx : x = b
        · have ex := bit_eq x b hx
          have exn : (x == b) = true := by simpa using hx
          clear hx
          cases hh
          · gi_wp2
            exact ⟨hkf _ _, hkp _, HS.out _ (by rw [exn]; rfl)⟩
          · gi_wp2
            exact ⟨hkf _ _, hkp _, HS.out _ (by rw [exn]; rfl)⟩
        · have ex := bit_ne x b hx
          have exn : (x == b) = false := by simpa using hx
          clear hx
          cases hh
          · gi_wp2
            exact ⟨hkf _ _, hkp _, HS.out _ (by rw [exn]; rfl)⟩
          · gi_wp2
            exact ⟨hkf _ _, hkp _, HS.out _ (by rw [exn]; rfl)⟩
      case done_B =>
        rintro D ys W3 hD rfl ⟨hTg, hTb⟩ hKD
        rw [places_has, Bool.false_or] at hTb
        have hS9 := hS8.grown hTg (fun g e => by injection e with e; omega)
        have hL9 := left_grown hL8 hTg (fun g e => by injection e with e; subst e; exact ⟨_, _, _, bi8⟩)
        have hL : Left w.heap.size W3 (D :: Ds) := ⟨List.nodup_cons.2 ⟨fun hm => by have := hL8.lt hm; omega, hL9.1⟩, fun E hE => by
          rcases List.mem_cons.1 hE with rfl | hE
          · exact ⟨by have := hS8.1.size; omega, hKD⟩
          · exact hL9.2 E hE⟩
        have hBb9 := hBb8.below ((Below.refl hi V).grown hTg (Nat.le_of_lt bi8.lt) (fun g e => by injection e with e; omega))
        have hta := txt_in hS9.2.2.2.1 W3 (Below.refl _ _)
        have htb := txt_in hBb9 W3 (Below.refl _ _)
        have ci := hTb.one
        have ch := hS9.2.2.1.one
        have HS9 := Lib.hid hS9.1
        clear hS8 hL8 hL9 hTg hTb hKD hS9 hBb8 hBb9 bi8
        generalize text (xorOf ls) = tx at hta htb
        generalize bitAt (xorOf ls) b = bb at *
        have ebb : (bb == bb) = true := by cases bb <;> rfl
        gi_wp2_with (refine ⟨trivial, ?_⟩; first
          | (gi_at_call 14; refine (callsIn_wide.2 (num_any _ _)).mono ?_; rintro e w' ⟨rfl, rfl⟩)
          | (gi_at_call 11; refine (callsIn_wide.2 (works_any _)).mono ?_; rintro e wf ⟨rfl, hBf⟩))
        exact leaves_left w (D :: Ds) wf (hL.below hBf) (Below.next HS9.out hBf) (fun W' hB' => ⟨_, results_tmp rfl _ _ _, rfl, hB'⟩)
      case stop_B =>
        rintro D c pre W3 hD hsp hx hKD
        exact hx.elim
    · obtain ⟨Ab, cb, rfl⟩ := hF5.bytes.form rfl
      have hS5 := hS.next hB5
      have hL5 := hL.below hB5
      have hBb := hF5.bytes
      clear hS hL hF5 hV3 hV4 hB3 hB4 hg3 hB45 hB5 hk0 HK HXX HB3 hV hone hgt htc hct hvn
      gi_wp2_with fail
      obtain ⟨w6, hw6⟩ : ∃ w6, w5.alloc (.cells #[.bool false] 4) = w6 := ⟨_, rfl⟩
      have hB56 : Below w5.heap.size w5 w6 := by rw [← hw6]; exact (Below.refl _ w5).alloc (Nat.le_refl _) _
      have bi6 : Blk w6 w5.heap.size 4 #[.bool false] := by rw [← hw6]; exact Blk.new _ _ _
      rw [hw6]
      clear hw6
      have hS6 := hS5.next hB56
      have hL6 := hL5.below hB56
      have hBb6 := hBb.below hB56
      have hbi : hb < w5.heap.size := hS5.2.2.1.lt
      obtain ⟨hi, hhi⟩ : ∃ hi, w5.heap.size = hi := ⟨_, rfl⟩
      rw [hhi] at bi6 hBb6 hbi ⊢
      clear hS5 hL5 hBb hB56 hhi
      refine ⟨trivial, (callsIn_wide.2 (bitsOf_any _ _ w6 (hS6.2.2.2.1.more (Nat.le_of_lt hS6.2.2.1.lt)))).mono ?_⟩
      rintro e w7 ⟨gs, vs, rfl, _, _, _, hB7⟩
      have hS7 := hS6.next hB7
      have hL7 := hL6.below hB7
      have bi7 := bi6.below hB7 bi6.lt
      have hBb7 := hBb6.below (hB7.mono (Nat.le_of_lt bi6.lt))
      clear hS6 hL6 bi6 hBb6 hB7
      gi_wp2_with fail
      refine ⟨trivial, (callsIn_wide.2 (bitsOf_any _ _ w7 (hS7.2.2.2.1.more (Nat.le_of_lt hS7.2.2.1.lt)))).mono ?_⟩
      rintro e V ⟨gs2, vs2, rfl, hgs2, cs2, hF2, hB8⟩
      rw [show cellBytes (xorOf ls) = xorOf ls from if_pos hxc.out] at hF2
      have hS8 := hS7.next hB8
      have hL8 := hL7.below hB8
      have bi8 := bi7.below hB8 bi7.lt
      have hi7 := bi7.lt
      have hBb8 := hBb7.below (hB8.mono (Nat.le_of_lt bi7.lt))
      have hwb8 := hS8.2.2.2.2
      clear hS7 hL7 bi7 hBb7 hB8
      gi_wp2_with fail
      have hl64 := hxc.out.2
      refine wpIn_rangeFunc_ownG rfl (by omega) (gf := 53) (lb := #[.pointer (some ⟨gs2, 0, none⟩)]) rfl trivial enter_bits1
        (bits_stops _ (by omega) gs2 (fun q => q < V.heap.size ∧ q ≠ hi) _ (xorOf ls) (by omega) V cs2.lt (fun q h => h.1) cs2.one (fresh_toP hF2 (fun q h1 h2 => ⟨h2, by omega⟩))) Keeps.trans (keeps_put (fun q h => h.1)) (Below.refl _ _) (fun _ => rfl)
        (Turn V hi (fun h y => h || (y == b)) false) (fun _ _ _ => False) (turn_own _ _ _ _ _ (Nat.le_refl _)) (fun _ => ownFrom_pure _ (fun _ => False)) ⟨World.grownBy.refl _ _, bi8⟩
        ?a1_C ?assign_C ?body_C ?done_C ?stop_C
      case assign_C =>
        intro l' x W K hK
        gi_wp2
        exact hK
      case body_C =>
        rintro l' pre x W2 hT _
        have cbit := (hS8.2.1.grown hT.1 (fun e => by injection e with e; omega)).one
        have ch := hT.2.one
        have fh := hT.2.frozen 0
        have HS := Lib.hid (fun c hc => hT.set_ x c hc)
        have hkf : ∀ u v, KeepsFrom V.heap.size W2 (W2.setCell u v) := fun u v => (KeepsOthers.setCell _ _ _).from _
        have hkp : ∀ v, Keeps (fun q => q < V.heap.size ∧ q ≠ hi) W2 (W2.setCell ⟨hi, 0, none⟩ v) := fun v q hq => Below.heap_setCell _ _ _ q hq.2
        clear hT
        generalize pre.foldl _ _ = hh at *
        by_cases hx : x = b
        · have ex := bit_eq x b hx
          have exn : (x == b) = true := by simpa using hx
          clear hx
          cases hh
          · gi_wp2
            exact ⟨hkf _ _, hkp _, HS.out _ (by rw [exn]; rfl)⟩
          · gi_wp2
            exact ⟨hkf _ _, hkp _, HS.out _ (by rw [exn]; rfl)⟩
        · have ex := bit_ne x b hx
          have exn : (x == b) = false := by simpa using hx
          clear hx
          cases hh
          · gi_wp2
            exact ⟨hkf _ _, hkp _, HS.out _ (by rw [exn]; rfl)⟩
          · gi_wp2
            exact ⟨hkf _ _, hkp _, HS.out _ (by rw [exn]; rfl)⟩
      case done_C =>
        rintro D ys W3 hD rfl ⟨hTg, hTb⟩ hKD
        rw [places_has, Bool.false_or] at hTb
        have hS9 := hS8.grown hTg (fun g e => by injection e with e; omega)
        have hL9 := left_grown hL8 hTg (fun g e => by injection e with e; subst e; exact ⟨_, _, _, bi8⟩)
        have hL : Left w.heap.size W3 (D :: Ds) := ⟨List.nodup_cons.2 ⟨fun hm => by have := hL8.lt hm; omega, hL9.1⟩, fun E hE => by
          rcases List.mem_cons.1 hE with rfl | hE
          · exact ⟨by have := hS8.1.size; omega, hKD⟩
          · exact hL9.2 E hE⟩
        have hBb9 := hBb8.below ((Below.refl hi V).grown hTg (Nat.le_of_lt bi8.lt) (fun g e => by injection e with e; omega))
        have hta := txt_in hS9.2.2.2.1 W3 (Below.refl _ _)
        have htb := txt_in hBb9 W3 (Below.refl _ _)
        have ci := hTb.one
        have ch := hS9.2.2.1.one
        have HS9 := Lib.hid hS9.1
        clear hS8 hL8 hL9 hTg hTb hKD hS9 hBb8 hBb9 bi8
        generalize text (xorOf ls) = tx at hta htb
        generalize bitAt (xorOf ls) b = bb at *
        have ebb : (bb == bb) = true := by cases bb <;> rfl
        gi_wp2_with (refine ⟨trivial, ?_⟩; first
          | (gi_at_call 14; refine (callsIn_wide.2 (num_any _ _)).mono ?_; rintro e w' ⟨rfl, rfl⟩)
          | (gi_at_call 11; refine (callsIn_wide.2 (works_any _)).mono ?_; rintro e wf ⟨rfl, hBf⟩))
        exact leaves_left w (D :: Ds) wf (hL.below hBf) (Below.next HS9.out hBf) (fun W' hB' => ⟨_, results_tmp rfl _ _ _, rfl, hB'⟩)
      case stop_C =>
        rintro D c pre W3 hD hsp hx hKD
        exact hx.elim
  · rw [show (((m + 1 : Nat) : Int) - 1) = (m : Int) by omega]
    have dz : decide ((0 : Int) ≤ (m : Int)) = true := by simp
    have i1 : (0 : Int) ≤ (m : Int) := by omega
    have i2 : (m : Int) < (ls.length : Int) := by omega
    obtain ⟨u, hu, hub⟩ := HC.out m (by omega)
    have hcl := HCell.out m (by omega)
    have hdrop : (ls.drop m).reverse = (ls.drop (m + 1)).reverse ++ [ls[m]?.getD []] := by
      rw [List.drop_eq_getElem_cons (show m < ls.length by omega), List.reverse_cons, List.getElem?_eq_getElem (show m < ls.length by omega)]; rfl
    generalize ls[m]?.getD [] = l at hub hcl hdrop
    obtain ⟨Au, cu, rfl, _⟩ := id hub
    have hul : W.cell? ⟨bq, off + m, none⟩ = some (.slice Au l.length cu) := (hS.1.cell (p := ⟨bq, off + m, none⟩) hbq).trans hu
    have hA1 : Below W.heap.size W (W.alloc (.cells #[.slice Au l.length cu] 25)) := (Below.refl _ W).alloc (Nat.le_refl _) _
    have hR1 := hR.next hA1 (by omega)
    have hS1 := hS.next hA1
    have hL1 := hL.below hA1
    have hc1 : (W.alloc (.cells #[.slice Au l.length cu] 25)).cell? ⟨W.heap.size, 0, none⟩ = some (.slice Au l.length cu) := (Blk.new W _ _).one
    have hub1 := hub.below hS1.1
    have hdl : (ls.drop (m + 1)).reverse.length ≤ 1000000000 := by simp; omega
    have hz1 : hb + 1 ≤ (W.alloc (.cells #[.slice Au l.length cu] 25)).heap.size := by simp; omega
    have HU := Lib.hid hu
    have HUB := Lib.hid hub
    have HDrop := Lib.hid hdrop
    have HCL := Lib.hid hcl
    clear hA1 hR hS hL hu hub hdrop hcl
    gi_wp2_with (gi_at_builtin; refine wpListIn_oneR _ rfl (.tmp 55) (.tmp 60) rfl w.heap.size (hb + 1) vt _ rfl hR1 W.heap.size _ l rfl hc1 hub1 (by omega) hdl hz1 ?_; intro v2 w3 hR2 hg2; have hS3 := hS1.grown hg2 (fun g e => by have := (hR1.lt g e).1; omega); have hul3 : w3.cell? ⟨bq, off + m, none⟩ = some (.slice Au l.length cu) := (hS3.1.cell (p := ⟨bq, off + m, none⟩) hbq).trans HU.out)
    have hL3 := left_grown hL1 hg2 hR1.cells
    clear hR1 hS1 hL1 hc1 hub1 hul hdl hz1 hg2
    have hbW3 := hS3.2.2.1.lt
    refine ⟨trivial, (callsIn_wide.2 (bitsOf_any _ l w3 ((HUB.out.below hS3.1).more hS3.1.size))).mono ?_⟩
    rintro e w4 ⟨gs, vs, rfl, _, _, _, hB4⟩
    have hS4 := hS3.next hB4
    have hR4 := hR2.next hB4 hS3.1.size
    have hL4 := hL3.below hB4
    have hul4 : w4.cell? ⟨bq, off + m, none⟩ = some (.slice Au l.length cu) := (hS4.1.cell (p := ⟨bq, off + m, none⟩) hbq).trans HU.out
    clear hS3 hR2 hL3 hul3 hB4
    gi_wp2_with fail
    refine ⟨trivial, (callsIn_wide.2 (bitsOf_any _ l w4 ((HUB.out.below hS4.1).more hS4.1.size))).mono ?_⟩
    rintro e V ⟨gs2, vs2, rfl, hgs2, cs2, hF2, hB5⟩
    rw [show cellBytes l = l from if_pos HCL.out] at hF2
    have hS := hS4.next hB5
    have hR := hR4.next hB5 hS4.1.size
    have hL := hL4.below hB5
    have hbV := hS4.2.2.1.lt
    clear hS4 hR4 hL4 hul4 hB5
    gi_wp2_with fail
    have hl64 := HCL.out.2
    refine wpIn_rangeFunc_ownG rfl (by omega) (gf := 53) (lb := #[.pointer (some ⟨gs2, 0, none⟩)]) rfl trivial enter_bits1
      (bits_stops _ (by omega) gs2 (fun q => q < V.heap.size ∧ q ≠ hb) _ l (by omega) V cs2.lt (fun q h => h.1) cs2.one (fresh_toP hF2 (fun q h1 h2 => ⟨h2, by omega⟩))) Keeps.trans (keeps_put (fun q h => h.1)) (Below.refl _ _) (fun _ => rfl)
      (Turn V hb (fun h y => h != (y == b)) ((ls.drop (m + 1)).reverse.foldl (fun h l => h != bitAt l b) false)) (fun _ _ _ => False) (turn_own _ _ _ _ _ (Nat.le_refl _)) (fun _ => ownFrom_pure _ (fun _ => False)) ⟨World.grownBy.refl _ _, hS.2.2.1⟩
      ?a1_0 ?assign_0 ?body_0 ?done_0 ?stop_0
    case assign_0 =>
      intro l' x W K hK
      gi_wp2
      exact hK
    case body_0 =>
      rintro l' pre x W2 hT _
      have cbit := (hS.2.1.grown hT.1 (fun e => by injection e with e; omega)).one
      have ch := hT.2.one
      have fh := hT.2.frozen 0
      have HS := Lib.hid (fun c hc => hT.set_ x c hc)
      have hkf : ∀ u v, KeepsFrom V.heap.size W2 (W2.setCell u v) := fun u v => (KeepsOthers.setCell _ _ _).from _
      have hkp : ∀ v, Keeps (fun q => q < V.heap.size ∧ q ≠ hb) W2 (W2.setCell ⟨hb, 0, none⟩ v) := fun v q hq => Below.heap_setCell _ _ _ q hq.2
      clear hT
      generalize pre.foldl _ _ = hh at *
      by_cases hx : x = b
      · have ex := bit_eq x b hx
        have exn : (x == b) = true := by simpa using hx
        clear hx
        cases hh
        · gi_wp2
          exact ⟨hkf _ _, hkp _, HS.out _ (by rw [exn]; rfl)⟩
        · gi_wp2
          exact ⟨hkf _ _, hkp _, HS.out _ (by rw [exn]; rfl)⟩
      · have ex := bit_ne x b hx
        have exn : (x == b) = false := by simpa using hx
        clear hx
        cases hh
        · gi_wp2
          exact ⟨hkf _ _, hkp _, HS.out _ (by rw [exn]; rfl)⟩
        · gi_wp2
          exact ⟨hkf _ _, hkp _, HS.out _ (by rw [exn]; rfl)⟩
    case done_0 =>
      rintro D ys W3 hD rfl ⟨hTg, hTb⟩ hKD
      rw [places_turn] at hTb
      have hS5 := hS.turn hTg hTb
      have hR5 := hR.grown hTg (by
        cases hv : v2.ownBlock with
        | none => exact .inl rfl
        | some g => exact .inr (fun e => by injection e with e; have := (hR.lt g hv).1; omega)) hS.1.size (fun g e => by injection e with e; omega)
      have hL5 := left_grown hL hTg (fun g e => by injection e with e; subst e; exact ⟨_, _, _, hS.2.2.1⟩)
      have hL6 : Left w.heap.size W3 (D :: Ds) := ⟨List.nodup_cons.2 ⟨fun hm => by have := hL.lt hm; omega, hL5.1⟩, fun E hE => by
        rcases List.mem_cons.1 hE with rfl | hE
        · exact ⟨by have := hS.1.size; omega, hKD⟩
        · exact hL5.2 E hE⟩
      have hwm : wrap64 ((m : Int) - 1) = (m : Int) - 1 := by unfold wrap64; omega
      clear hS hR hL hL5 hTg hTb hKD
      gi_wp2
      try rw [hwm]
      have hz := fun (z9 z11 z12 z51 z52 z55 z56 z57 z58 z59 z60 z61 z62 z63 z64 z65 z66 z67 z68 z69 z70 z71 z72 z73 z74 z75 z76 z77 z78 z53 z54 : Value) hr => hK m [z9, z11, z12, z51, z52, z55, z56, z57, z58, z59, z60, z61, z62, z63, z64, z65, z66, z67, z68, z69, z70, z71, z72, z73, z74, z75, z76, z77, z78, z53, z54] (D :: Ds) W3 (by omega) hr
      simp only [sets, List.setIfInBounds_toArray, List.set_cons_zero, List.set_cons_succ] at hz
      refine hz _ _ _ _ _ _ _ _ _ _ _ _ _ _ _ _ _ _ _ _ _ _ _ _ _ _ _ _ _ _ _ ⟨_, _, _, _, _, _, _, _, _, _, _, _, _, _, _, _, _, _, _, _, _, _, _, _, _, _, _, _, _, _, rfl, by omega, by rw [HDrop.out]; exact hR5, by rw [HDrop.out, List.foldl_append]; exact hS5, hL6⟩
    case stop_0 =>
      rintro D c pre W3 hD hsp hx hKD
      exact hx.elim
end Go.Proofs.Ytjkpmhannmbgfaa.cellsHolds
