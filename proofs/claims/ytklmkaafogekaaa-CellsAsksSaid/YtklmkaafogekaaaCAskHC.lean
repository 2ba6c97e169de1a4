/- CellsAsks where the number is too high and what came in is a cell. -/
import Derived.Test.YtklmkaafogekaaaCAskKit
namespace Go.Proofs.Ytklmkaafogekaaa.cellsAsks
open Go.ChangeShapes Go.WideShapes Go.ChangeAt Go.RowKit Go.Shelf
set_option linter.unusedVariables false

attribute [local go_sem] Oper.semAt_some
set_option maxRecDepth 100000 in
set_option maxHeartbeats 1000000 in
theorem midHC (v : Value) (l : List UInt8) (n : Int) (many : Int) (w : World) (hb : Bytes w.heap.size w v l) (h100 : l.length ≤ 100) (h64 : 64 < n) (hc : Cell l) (wm1 : -9223372036854775808 ≤ many) (wm2 : many ≤ 9223372036854775807) :
    Calls Try.prog 4 #[v, .int .i64 n, .int .i64 many] w fun e w' => e = .returned (.bool true) ∧ Below w.heap.size w w' := by
  refine (callsIn_wide (n := 5)).1 ?_
  refine callsIn_of_wp_marks Try.func4 rfl trivial ?_ rfl
  simp only [Try.ntmps4, List.size_toArray, List.length_cons, List.length_nil, Nat.reduceAdd, Nat.reduceSub, Array.replicate_succ, Array.replicate_zero, List.push_toArray, List.append_toArray, List.nil_append, List.cons_append]
  have d1 : decide ((100 : Int) < (l.length : Int)) = false := by simp; omega
  have hbt := Lib.hid hb
  obtain ⟨A, cap, rfl, _, _⟩ := id hb
  clear hb
  have d2 : decide (n < 1) = false := by simp; omega
  have d3 : decide (64 < n) = true := by simp; omega
  have hn : ¬ (1 ≤ n ∧ n ≤ 64) := by omega
  have HZ := Lib.hid (fun W : World => zero_no n hn W)
  gi_wp2_with fail
  obtain ⟨W0, hW0⟩ : ∃ W0, (w.alloc (.cells #[.int .i64 many] 3)).alloc (.cells #[.bool false] 4) = W0 := ⟨_, rfl⟩
  have b0 : Blk W0 w.heap.size 3 #[.int .i64 many] := by rw [← hW0]; exact (Blk.new w _ _).alloc _
  have b1 : Blk W0 (w.heap.size + 1) 4 #[.bool false] := by
    rw [← hW0]; have := Blk.new (w.alloc (.cells #[.int .i64 many] 3)) 4 #[.bool false]; rwa [World.size_alloc] at this
  have hB0 : Below w.heap.size w W0 := by rw [← hW0]; exact ((Below.refl _ w).alloc (Nat.le_refl _) _).alloc (by simp) _
  have hs0 : W0.heap.size = w.heap.size + 2 := by rw [← hW0]; simp
  rw [hW0]
  clear hW0
  refine ⟨trivial, (callsIn_wide.2 (HZ.out W0)).mono ?_⟩
  rintro e w3 ⟨rfl, hB03⟩
  clear HZ
  gi_wp2_with (refine ⟨trivial, ?_⟩; (gi_at_call 14; refine (callsIn_wide.2 (num_any _ _)).mono ?_; rintro e w' ⟨rfl, rfl⟩))
  obtain ⟨cb, hcb⟩ : ∃ cb, cellBytes l = cb := ⟨_, rfl⟩
  have hcl : cb.length ≤ 100 := by have := cellBytes_le l; rw [hcb] at this; omega
  have HB := Lib.hid (rbits_any _ l w3 (hbt.out.below (hB0.trans (hB03.mono hB0.size)) |>.more (Nat.le_trans hB0.size hB03.size)))
  refine ⟨trivial, (callsIn_wide.2 HB.out).mono ?_⟩
  rintro e w4 ⟨vw, rfl, hown4, hB34⟩
  rw [show bitsL l = places cb by unfold bitsL; rw [hcb]] at hown4
  obtain ⟨L, hL⟩ : ∃ L, places cb = L := ⟨_, rfl⟩
  rw [hL] at hown4
  obtain ⟨Aw, cw, rfl, hrow⟩ := ownI_cells hown4
  have hB04 := Below.next hB03 hB34
  clear HB hB34 hB03 hown4
  have hW4 : Below w.heap.size w w4 := hB0.trans (hB04.mono hB0.size)
  have hBa : ∀ W : World, Below w4.heap.size w4 W → Below w.heap.size w W := fun W h => Below.next hW4 h
  have HC := Lib.hid (fun (W : World) (h : Below w4.heap.size w4 W) => check_any _ l W (hbt.out.below (hBa W h)))
  have HR := Lib.hid (fun (W : World) (h : Below w4.heap.size w4 W) => right_any _ l W (hbt.out.below (hBa W h)))
  have HI := Lib.hid (fun (W : World) (h : Below w4.heap.size w4 W) => isZero_any _ l W ((hbt.out.below (hBa W h)).more (hBa W h).size))
  have HS := Lib.hid (fun (W : World) (h : Below w4.heap.size w4 W) => bitsOf_any _ l W ((hbt.out.below (hBa W h)).more (hBa W h).size))
  have hLen : L.length ≤ 1000 := by
    have := came_len cb cb.length 0
    rw [came_all, hL] at this
    omega
  rw [if_pos hc] at HC
  rw [decide_eq_true hc] at HR
  rw [show decide (Cell l ∧ places l = []) = decide (L = []) by
    have : cellBytes l = l := by unfold cellBytes; rw [if_pos hc]
    rw [this] at hcb
    subst hcb
    rw [hL]; simp [hc]] at HI
  have hd : ((L.length : Int) == 0) = decide (L = []) := by
    cases L <;> simp <;> omega
  generalize decide (L = []) = dz at HI hd
  gi_wp2_with fail
  obtain ⟨W5, hW5⟩ : ∃ W5, w4.alloc (.cells #[.slice Aw L.length cw] 34) = W5 := ⟨_, rfl⟩
  rw [hW5]
  have hB5 : Below w4.heap.size w4 W5 := by rw [← hW5]; exact (Below.refl _ w4).alloc (Nat.le_refl _) _
  have bw5 : Blk W5 w4.heap.size 34 #[.slice Aw L.length cw] := by rw [← hW5]; exact Blk.new _ _ _
  have hs5 : W5.heap.size = w4.heap.size + 1 := by rw [← hW5]; simp
  clear hW5
  refine ⟨trivial, (callsIn_wide.2 (HC.out W5 hB5)).mono ?_⟩
  rintro e w6 ⟨rfl, HBY⟩
  have cwX : w6.cell? ⟨w4.heap.size, 0, none⟩ = some (.slice Aw L.length cw) := (bw5.below HBY (by omega)).one
  gi_wp2_with (refine ⟨trivial, ?_⟩; first
    | (gi_at_call 14; refine (callsIn_wide.2 (num_any _ _)).mono ?_; rintro e w' ⟨rfl, rfl⟩)
    | (gi_at_call 19; refine (callsIn_wide.2 (HR.out _ (Below.next hB5 HBY))).mono ?_; rintro e w' ⟨rfl, rfl⟩)
    | (gi_at_call 18; refine (callsIn_wide.2 (HC.out _ (Below.next hB5 HBY))).mono ?_; rintro e w6 ⟨rfl, hBc⟩; have HBY := Below.next HBY hBc; have cwX : w6.cell? ⟨w4.heap.size, 0, none⟩ = some (.slice Aw L.length cw) := (bw5.below HBY (by omega)).one)
    | (gi_at_call 16; refine (callsIn_wide.2 (HI.out _ (Below.next hB5 HBY))).mono ?_; rintro e w7 ⟨rfl, hBc⟩; have HBY := Below.next HBY hBc; have cwX : w7.cell? ⟨w4.heap.size, 0, none⟩ = some (.slice Aw L.length cw) := (bw5.below HBY (by omega)).one))
  refine ⟨trivial, ?_⟩
  gi_wp2_with (refine ⟨trivial, ?_⟩; first
    | (gi_at_call 14; refine (callsIn_wide.2 (num_any _ _)).mono ?_; rintro e w' ⟨rfl, rfl⟩)
    | (gi_at_call 19; refine (callsIn_wide.2 (HR.out _ (Below.next hB5 HBY))).mono ?_; rintro e w' ⟨rfl, rfl⟩)
    | (gi_at_call 18; refine (callsIn_wide.2 (HC.out _ (Below.next hB5 HBY))).mono ?_; rintro e w6 ⟨rfl, hBc⟩; have HBY := Below.next HBY hBc; have cwX : w6.cell? ⟨w4.heap.size, 0, none⟩ = some (.slice Aw L.length cw) := (bw5.below HBY (by omega)).one)
    | (gi_at_call 16; refine (callsIn_wide.2 (HI.out _ (Below.next hB5 HBY))).mono ?_; rintro e w7 ⟨rfl, hBc⟩; have HBY := Below.next HBY hBc; have cwX : w7.cell? ⟨w4.heap.size, 0, none⟩ = some (.slice Aw L.length cw) := (bw5.below HBY (by omega)).one))
  refine ⟨trivial, ?_⟩
  gi_wp2_with (refine ⟨trivial, ?_⟩; first
    | (gi_at_call 14; refine (callsIn_wide.2 (num_any _ _)).mono ?_; rintro e w' ⟨rfl, rfl⟩)
    | (gi_at_call 19; refine (callsIn_wide.2 (HR.out _ (Below.next hB5 HBY))).mono ?_; rintro e w' ⟨rfl, rfl⟩)
    | (gi_at_call 18; refine (callsIn_wide.2 (HC.out _ (Below.next hB5 HBY))).mono ?_; rintro e w6 ⟨rfl, hBc⟩; have HBY := Below.next HBY hBc; have cwX : w6.cell? ⟨w4.heap.size, 0, none⟩ = some (.slice Aw L.length cw) := (bw5.below HBY (by omega)).one)
    | (gi_at_call 16; refine (callsIn_wide.2 (HI.out _ (Below.next hB5 HBY))).mono ?_; rintro e w7 ⟨rfl, hBc⟩; have HBY := Below.next HBY hBc; have cwX : w7.cell? ⟨w4.heap.size, 0, none⟩ = some (.slice Aw L.length cw) := (bw5.below HBY (by omega)).one))
  refine ⟨trivial, (callsIn_wide.2 (HS.out w7 (Below.next hB5 HBY))).mono ?_⟩
  rintro e w8 ⟨gs, vs, rfl, _, cs8, hF8, hB78⟩
  rw [hcb] at hF8
  have hB58 := Below.next HBY hB78
  have hB48 := Below.next hB5 hB58
  have hW8 : Below w.heap.size w w8 := hBa w8 hB48
  have F8 : Facts w8 w.heap.size many w4.heap.size Aw cw L gs vs cb := by
    refine ⟨(b0.below hB04 (by omega)).below hB48 (by have := hB04.size; omega), (b1.below hB04 (by omega)).below hB48 (by have := hB04.size; omega), bw5.below hB58 (by omega), fun hp => ?_, cs8, hF8.bytes⟩
    obtain ⟨g, e, _, hg, hcell⟩ := hrow hp
    exact ⟨g, e, Nat.lt_of_lt_of_le hg hB48.size, fun j hj => (hB48.cell (p := ⟨g, j, none⟩) hg).trans (hcell j hj)⟩
  clear HC HR HI HS hBa hB04 hB48 hB58 hB78 HBY cwX bw5 b0 b1 cs8 hF8 hrow hcb hB5
  try clear hd
  gi_wp2_with fail
  obtain ⟨V0, hV0⟩ : ∃ V0, w8.alloc (.cells #[.int .i64 0] 3) = V0 := ⟨_, rfl⟩
  rw [hV0]
  have hB80 : Below w8.heap.size w8 V0 := by rw [← hV0]; exact (Below.refl _ w8).alloc (Nat.le_refl _) _
  have ct0 : Blk V0 w8.heap.size 3 #[.int .i64 0] := by rw [← hV0]; exact Blk.new _ _ _
  have F0 := F8.next hB80
  have hW0 := Below.next hW8 hB80
  clear hV0 F8
  refine wpIn_loop_rounds 3 ?_
  rw [roundsIn_succ]
  obtain ⟨f1, f2, f3, f4, f5, f6⟩ := id F0
  have ct := ct0.one
  have hlt1 := f1.lt
  have hlt2 := f2.lt
  have hlt3 := f3.lt
  have hlt5 := f5.lt
  have hltt := ct0.lt
  gi_wp2_with fail
  have hnb : Blk (V0.alloc (.cells #[.int .i64 0] 3)) V0.heap.size 3 #[.int .i64 (([] : List Nat).length : Int)] := Blk.new _ _ _
  refine wpIn_rangeFunc_ownG rfl (by omega) (gf := 53) (lb := #[.pointer (some ⟨gs, 0, none⟩)]) rfl trivial enter_bits1
    (bits_stops _ (by omega) gs (· < V0.heap.size) _ cb (by omega) _ (by simp; omega) (fun b h => by simp; omega) (f5.alloc _).one (f6.below ((Below.refl _ _).alloc (Nat.le_refl _) _)).toP) Keeps.trans (keeps_put (fun b h => by simp; omega)) (Below.refl _ _) (fun _ => rfl)
    (fun pre W => (pre <+: L ∧ (pre.length = 0 ∨ (pre.length : Int) < many)) ∧ Told L V0.heap.size V0 pre W)
    (fun c pre W => ((c = .ret ∧ ¬ (pre <+: L)) ∨ (c = .exit 2 ∧ 1 ≤ pre.length ∧ (pre.length = 1 ∨ (pre.length : Int) - 1 < many) ∧ many ≤ (pre.length : Int) ∧ pre <+: L)) ∧ (c = .exit 2 → Told L V0.heap.size V0 pre W))
    (OwnFrom.and (ownFrom_pure _ _) (told_own L _ _ _ (by simp)))
    (fun c => told_ifown L _ _ _ (by simp) _ _ _)
    ⟨⟨List.nil_prefix, .inl rfl⟩, hnb, (Below.refl _ _).alloc (Nat.le_refl _) _⟩
    ?a1A ?assignA ?bodyA ?doneA ?stopA
  case assignA =>
    intro l' x W K hK
    gi_wp2
    exact hK
  case bodyA =>
    rintro l' pre x W ⟨⟨hpre, hcnd⟩, hn, hB⟩ _
    have hple := hpre.length_le
    have htake := List.prefix_iff_eq_take.1 hpre
    have cn := hn.one
    have fn := hn.frozen 0
    have cwx := (f3.below hB f3.lt).one
    have ctx := (ct0.below hB ct0.lt).one
    have cmx := (f1.below hB f1.lt).one
    have crx := (f2.below hB f2.lt).one
    have frx := (f2.below hB f2.lt).frozen 0
    have hkf : ∀ u v, KeepsFrom (V0.alloc (.cells #[.int .i64 0] 3)).heap.size W (W.setCell u v) := fun u v => (KeepsOthers.setCell _ _ _).from _
    have hkf' : ∀ u v, KeepsFrom (V0.heap.size + 1) W (W.setCell u v) := fun u v => (KeepsOthers.setCell _ _ _).from _
    have hbs := hB.size
    by_cases hp : pre.length < L.length
    · obtain ⟨g, hAw, hg, hcell⟩ := f4 (by omega)
      subst hAw
      have cx : W.cell? ⟨g, pre.length, none⟩ = some (.int .i64 ((L[pre.length]?.getD 0 : Nat) : Int)) := (hB.cell (p := ⟨g, pre.length, none⟩) hg).trans (hcell _ hp)
      have dp : decide ((L.length : Int) ≤ (pre.length : Int)) = false := decide_eq_false (by omega)
      by_cases hx : x = L[pre.length]?.getD 0
      · have hnext : pre ++ [x] <+: L := by
          rw [hx, htake, List.length_take, Nat.min_eq_left hple, ← take_next L _ hp]
          exact List.take_prefix _ _
        have HN := Lib.hid hnext
        have hl1 : ((pre ++ [x]).length : Int) = (pre.length : Int) + 1 := by rw [List.length_append]; rfl
        have HL1 := Lib.hid hl1
        have HT : Hid (Told L V0.heap.size V0 (pre ++ [x]) (W.setCell ⟨V0.heap.size, 0, none⟩ (.int .i64 ((pre.length : Int) + 1)))) := by
          refine ⟨?_, hB.setCell (Nat.le_refl _) _⟩
          rw [hl1]
          exact hn.set_ 0 _
        have ex : ((x : Int) != ((L[pre.length]?.getD 0 : Nat) : Int)) = false := by rw [hx]; simp
        clear hx hnext hl1 htake hcell
        generalize L[pre.length]?.getD 0 = y at *
        by_cases hm : many ≤ (pre.length : Int) + 1
        · have dm : decide (many ≤ (pre.length : Int) + 1) = true := decide_eq_true hm
          gi_wp2
          refine ⟨by first | exact hkf _ _ | exact hkf' _ _, .inr ⟨rfl, by rw [List.length_append]; simp, ?_, ?_, HN.out⟩, fun _ => HT.out⟩
          · rcases hcnd with h | h
            · left; rw [List.length_append, h]; rfl
            · right; rw [HL1.out]; omega
          · rw [HL1.out]; exact hm
        · have dm : decide (many ≤ (pre.length : Int) + 1) = false := decide_eq_false hm
          gi_wp2
          refine ⟨by first | exact hkf _ _ | exact hkf' _ _, fun b hb => Below.heap_setCell W _ _ b (by simp; omega), ⟨HN.out, .inr ?_⟩, HT.out⟩
          rw [HL1.out]; omega
      · have HN := Lib.hid (not_prefix L pre.length x (fun _ => hx) hple)
        have ex : ((x : Int) != ((L[pre.length]?.getD 0 : Nat) : Int)) = true := by rw [bne_iff_ne]; omega
        have HTk := Lib.hid htake
        clear hx htake hcell
        generalize L[pre.length]?.getD 0 = y at *
        gi_wp2
        exact ⟨by first | exact hkf _ _ | exact hkf' _ _, .inl ⟨rfl, by rw [HTk.out]; exact HN.out⟩, fun h => by cases h⟩
    · have dp : decide ((L.length : Int) ≤ (pre.length : Int)) = true := decide_eq_true (by omega)
      have HN := Lib.hid (not_prefix L pre.length x (fun h => absurd h hp) hple)
      have HTk := Lib.hid htake
      clear htake
      gi_wp2
      exact ⟨by first | exact hkf _ _ | exact hkf' _ _, .inl ⟨rfl, by rw [HTk.out]; exact HN.out⟩, fun h => by cases h⟩
  case doneA =>
    rintro D0 ys W hD rfl ⟨⟨hpre, hcnd⟩, hn, hB⟩ hK
    rw [hL] at hpre hcnd hn
    have hmin : ((L.length : Int) != min (L.length : Int) (max 1 many)) = false := by
      rw [bne_eq_false_iff_eq]; rcases hcnd with h | h <;> omega
    have cn := hn.one
    have cwx := (f3.below hB f3.lt).one
    have ctx := (ct0.below hB ct0.lt).one
    have cmx := (f1.below hB f1.lt).one
    have crx := (f2.below hB f2.lt).one
    have lt0 := hB.size
    gi_wp2
    clear cn cwx ctx cmx crx hmin
    obtain ⟨V1, hV1⟩ : ∃ V1, W.alloc (.cells #[.int .i64 1] 3) = V1 := ⟨_, rfl⟩
    rw [hV1]
    have hB01 : Below V0.heap.size V0 V1 := by rw [← hV1]; exact hB.alloc hB.size _
    have ct1 : Blk V1 W.heap.size 3 #[.int .i64 1] := by rw [← hV1]; exact Blk.new _ _ _
    have hlD := (Array.getElem?_eq_some_iff.1 hK).1
    have hD1 : V1.heap[D0]? = some (.deferred (some [])) := by rw [← hV1]; exact (Below.heap_alloc W _ D0 hlD).trans hK
    have hlD1 : D0 < V1.heap.size := (Array.getElem?_eq_some_iff.1 hD1).1
    have hDw : w.heap.size + 2 ≤ D0 := by
      have := hW0.size
      have := hB.size
      simp at hD; omega
    have F1 := F0.next hB01
    have hW1 := Below.next hW0 hB01
    clear hV1 F0 ct0 hB01 hK hn
    rw [roundsIn_succ]
    obtain ⟨f1, f2, f3, f4, f5, f6⟩ := id F1
    have ct := ct1.one
    have hlt1 := f1.lt
    have hlt2 := f2.lt
    have hlt3 := f3.lt
    have hlt5 := f5.lt
    have hltt := ct1.lt
    gi_wp2_with fail
    have hnb : Blk (V1.alloc (.cells #[.int .i64 0] 3)) V1.heap.size 3 #[.int .i64 (([] : List Nat).length : Int)] := Blk.new _ _ _
    refine wpIn_rangeFunc_ownG rfl (by omega) (gf := 53) (lb := #[.pointer (some ⟨gs, 0, none⟩)]) rfl trivial enter_bits1
      (bits_stops _ (by omega) gs (· < V1.heap.size) _ cb (by omega) _ (by simp; omega) (fun b h => by simp; omega) (f5.alloc _).one (f6.below ((Below.refl _ _).alloc (Nat.le_refl _) _)).toP) Keeps.trans (keeps_put (fun b h => by simp; omega)) (Below.refl _ _) (fun _ => rfl)
      (fun pre W => (pre <+: L ∧ True) ∧ Told L V1.heap.size V1 pre W)
      (fun c pre W => ((c = .ret ∧ ¬ (pre <+: L)) ∨ False) ∧ (c = .exit 2 → Told L V1.heap.size V1 pre W))
      (OwnFrom.and (ownFrom_pure _ _) (told_own L _ _ _ (by simp)))
      (fun c => told_ifown L _ _ _ (by simp) _ _ _)
      ⟨⟨List.nil_prefix, trivial⟩, hnb, (Below.refl _ _).alloc (Nat.le_refl _) _⟩
      ?a1B ?assignB ?bodyB ?doneB ?stopB
    case assignB =>
      intro l' x W K hK
      gi_wp2
      exact hK
    case bodyB =>
      rintro l' pre x W ⟨⟨hpre, hcnd⟩, hn, hB⟩ _
      have hple := hpre.length_le
      have htake := List.prefix_iff_eq_take.1 hpre
      have cn := hn.one
      have fn := hn.frozen 0
      have cwx := (f3.below hB f3.lt).one
      have ctx := (ct1.below hB ct1.lt).one
      have cmx := (f1.below hB f1.lt).one
      have crx := (f2.below hB f2.lt).one
      have frx := (f2.below hB f2.lt).frozen 0
      have hkf : ∀ u v, KeepsFrom (V1.alloc (.cells #[.int .i64 0] 3)).heap.size W (W.setCell u v) := fun u v => (KeepsOthers.setCell _ _ _).from _
      have hkf' : ∀ u v, KeepsFrom (V1.heap.size + 1) W (W.setCell u v) := fun u v => (KeepsOthers.setCell _ _ _).from _
      have hbs := hB.size
      by_cases hp : pre.length < L.length
      · obtain ⟨g, hAw, hg, hcell⟩ := f4 (by omega)
        subst hAw
        have cx : W.cell? ⟨g, pre.length, none⟩ = some (.int .i64 ((L[pre.length]?.getD 0 : Nat) : Int)) := (hB.cell (p := ⟨g, pre.length, none⟩) hg).trans (hcell _ hp)
        have dp : decide ((L.length : Int) ≤ (pre.length : Int)) = false := decide_eq_false (by omega)
        by_cases hx : x = L[pre.length]?.getD 0
        · have hnext : pre ++ [x] <+: L := by
            rw [hx, htake, List.length_take, Nat.min_eq_left hple, ← take_next L _ hp]
            exact List.take_prefix _ _
          have HN := Lib.hid hnext
          have hl1 : ((pre ++ [x]).length : Int) = (pre.length : Int) + 1 := by rw [List.length_append]; rfl
          have HL1 := Lib.hid hl1
          have HT : Hid (Told L V1.heap.size V1 (pre ++ [x]) (W.setCell ⟨V1.heap.size, 0, none⟩ (.int .i64 ((pre.length : Int) + 1)))) := by
            refine ⟨?_, hB.setCell (Nat.le_refl _) _⟩
            rw [hl1]
            exact hn.set_ 0 _
          have ex : ((x : Int) != ((L[pre.length]?.getD 0 : Nat) : Int)) = false := by rw [hx]; simp
          clear hx hnext hl1 htake hcell
          generalize L[pre.length]?.getD 0 = y at *
          gi_wp2
          exact ⟨by first | exact hkf _ _ | exact hkf' _ _, fun b hb => Below.heap_setCell W _ _ b (by simp; omega), ⟨HN.out, trivial⟩, HT.out⟩
        · have HN := Lib.hid (not_prefix L pre.length x (fun _ => hx) hple)
          have ex : ((x : Int) != ((L[pre.length]?.getD 0 : Nat) : Int)) = true := by rw [bne_iff_ne]; omega
          have HTk := Lib.hid htake
          clear hx htake hcell
          generalize L[pre.length]?.getD 0 = y at *
          gi_wp2
          exact ⟨by first | exact hkf _ _ | exact hkf' _ _, .inl ⟨rfl, by rw [HTk.out]; exact HN.out⟩, fun h => by cases h⟩
      · have dp : decide ((L.length : Int) ≤ (pre.length : Int)) = true := decide_eq_true (by omega)
        have HN := Lib.hid (not_prefix L pre.length x (fun h => absurd h hp) hple)
        have HTk := Lib.hid htake
        clear htake
        gi_wp2
        exact ⟨by first | exact hkf _ _ | exact hkf' _ _, .inl ⟨rfl, by rw [HTk.out]; exact HN.out⟩, fun h => by cases h⟩
    case doneB =>
      rintro D1 ys W hD rfl ⟨⟨hpre, hcnd⟩, hn, hB⟩ hK
      rw [hL] at hpre hn
      have hne1 : ((L.length : Int) != (L.length : Int)) = false := by simp
      have cn := hn.one
      have cwx := (f3.below hB f3.lt).one
      have ctx := (ct1.below hB ct1.lt).one
      have cmx := (f1.below hB f1.lt).one
      have crx := (f2.below hB f2.lt).one
      gi_wp2
      clear cn cwx ctx cmx crx
      obtain ⟨V2, hV2⟩ : ∃ V2, W.alloc (.cells #[.int .i64 2] 3) = V2 := ⟨_, rfl⟩
      rw [hV2]
      have hB12 : Below V1.heap.size V1 V2 := by rw [← hV2]; exact hB.alloc hB.size _
      have ct2 : Blk V2 W.heap.size 3 #[.int .i64 2] := by rw [← hV2]; exact Blk.new _ _ _
      have hlE := (Array.getElem?_eq_some_iff.1 hK).1
      have hE2 : V2.heap[D1]? = some (.deferred (some [])) := by rw [← hV2]; exact (Below.heap_alloc W _ D1 hlE).trans hK
      have hlE2 : D1 < V2.heap.size := (Array.getElem?_eq_some_iff.1 hE2).1
      have hD2 : V2.heap[D0]? = some (.deferred (some [])) := (hB12.block D0 hlD1).trans hD1
      have hlD2 : D0 < V2.heap.size := (Array.getElem?_eq_some_iff.1 hD2).1
      have F2 := F1.next hB12
      have hW2 := Below.next hW1 hB12
      have hne : D1 ≠ D0 := by
        simp at hD; omega
      have hDe : w.heap.size + 2 ≤ D1 := by
        simp at hD; omega
      obtain ⟨f1, f2, f3, f4, f5, f6⟩ := id F2
      have ctx := ct2.one
      rw [roundsIn_succ]
      gi_wp2_with fail
      refine ⟨trivial, (callsIn_wide.2 (works_any V2)).mono ?_⟩
      rintro e wf ⟨rfl, hBf⟩
      have crx := (f2.below hBf f2.lt).one
      have frx := (f2.below hBf f2.lt).frozen 0
      gi_wp2
      have hE3 : (wf.setCell ⟨w.heap.size + 1, 0, none⟩ (.bool true)).heap[D1]? = some (.deferred (some [])) := (KeepsOthers.setCell wf ⟨w.heap.size + 1, 0, none⟩ (.bool true)).same D1 _ ((hBf.block D1 hlE2).trans hE2) rfl
      have hD3 : (wf.setCell ⟨w.heap.size + 1, 0, none⟩ (.bool true)).heap[D0]? = some (.deferred (some [])) := (KeepsOthers.setCell wf ⟨w.heap.size + 1, 0, none⟩ (.bool true)).same D0 _ ((hBf.block D0 hlD2).trans hD2) rfl
      have hb3 := (f2.below hBf f2.lt).set_ 0 (.bool true)
      have hB3 : Below w.heap.size w (wf.setCell ⟨w.heap.size + 1, 0, none⟩ (.bool true)) := (Below.next hW2 hBf).setCell (by simp) _
      generalize wf.setCell ⟨w.heap.size + 1, 0, none⟩ (.bool true) = Wr at *
      have hD4 : (Wr.putObj D1 (.deferred none)).heap[D0]? = some (.deferred (some [])) := (World.putObj_heap_other (Ne.symm hne)).trans hD3
      have hB4 : Below w.heap.size Wr (Wr.putObj D1 (.deferred none)) := belowK_b (w := w) (Nat.le_refl _) _ D1 _ _ (by omega) hE3 rfl rfl
      have hb4 : Blk (Wr.putObj D1 (.deferred none)) (w.heap.size + 1) 4 #[.bool true] :=
        Blk.own (w.heap.size + 1) 4 (fun _ : Unit => #[.bool true]) () _ _ _ hb3 (grownBy_putObj' _ D1 (.deferred none)) (fun r e => by cases e; exact ⟨_, hE3, rfl⟩)
      have hB5 : Below w.heap.size (Wr.putObj D1 (.deferred none)) ((Wr.putObj D1 (.deferred none)).putObj D0 (.deferred none)) := belowK_b (w := w) (Nat.le_refl _) _ D0 _ _ (by omega) hD4 rfl rfl
      have hb5 : Blk ((Wr.putObj D1 (.deferred none)).putObj D0 (.deferred none)) (w.heap.size + 1) 4 #[.bool true] :=
        Blk.own (w.heap.size + 1) 4 (fun _ : Unit => #[.bool true]) () _ _ _ hb4 (grownBy_putObj' _ D0 (.deferred none)) (fun r e => by cases e; exact ⟨_, hD4, rfl⟩)
      have c5 := hb5.one
      refine ⟨by simp, .inl ⟨_, _, rfl, run_takeDeferred hE3, ?_⟩⟩
      refine ⟨by simp, .inl ⟨_, _, rfl, run_takeDeferred hD4, ?_⟩⟩
      exact ⟨.bool true, by simp [results, Try.results4, go_sem, c5], rfl, (hB3.trans hB4).trans hB5⟩
    case stopB =>
      rintro D1 c pre W hD ⟨hsp, hne⟩ ⟨hor, htold⟩ hK
      rw [hL] at hsp
      rcases hor with ⟨rfl, h⟩ | h
      · exact absurd hsp h
      · exact h.elim
  case stopA =>
    rintro D0 c pre W hD ⟨hsp, hne⟩ ⟨hor, htold⟩ hK
    rw [hL] at hsp
    rcases hor with ⟨rfl, h⟩ | ⟨rfl, hx1, hx2, hx3, hpre⟩
    · exact absurd hsp h
    obtain ⟨hn, hB⟩ := htold rfl
    have hple := hpre.length_le
    have hmin : ((pre.length : Int) != min (L.length : Int) (max 1 many)) = false := by
      rw [bne_eq_false_iff_eq]; rcases hx2 with h | h <;> omega
    have cn := hn.one
    have cwx := (f3.below hB f3.lt).one
    have ctx := (ct0.below hB ct0.lt).one
    have cmx := (f1.below hB f1.lt).one
    have crx := (f2.below hB f2.lt).one
    have lt0 := hB.size
    gi_wp2
    clear cn cwx ctx cmx crx hmin
    obtain ⟨V1, hV1⟩ : ∃ V1, W.alloc (.cells #[.int .i64 1] 3) = V1 := ⟨_, rfl⟩
    rw [hV1]
    have hB01 : Below V0.heap.size V0 V1 := by rw [← hV1]; exact hB.alloc hB.size _
    have ct1 : Blk V1 W.heap.size 3 #[.int .i64 1] := by rw [← hV1]; exact Blk.new _ _ _
    have hlD := (Array.getElem?_eq_some_iff.1 hK).1
    have hD1 : V1.heap[D0]? = some (.deferred (some [])) := by rw [← hV1]; exact (Below.heap_alloc W _ D0 hlD).trans hK
    have hlD1 : D0 < V1.heap.size := (Array.getElem?_eq_some_iff.1 hD1).1
    have hDw : w.heap.size + 2 ≤ D0 := by
      have := hW0.size
      have := hB.size
      simp at hD; omega
    have F1 := F0.next hB01
    have hW1 := Below.next hW0 hB01
    clear hV1 F0 ct0 hB01 hK hn
    rw [roundsIn_succ]
    obtain ⟨f1, f2, f3, f4, f5, f6⟩ := id F1
    have ct := ct1.one
    have hlt1 := f1.lt
    have hlt2 := f2.lt
    have hlt3 := f3.lt
    have hlt5 := f5.lt
    have hltt := ct1.lt
    gi_wp2_with fail
    have hnb : Blk (V1.alloc (.cells #[.int .i64 0] 3)) V1.heap.size 3 #[.int .i64 (([] : List Nat).length : Int)] := Blk.new _ _ _
    refine wpIn_rangeFunc_ownG rfl (by omega) (gf := 53) (lb := #[.pointer (some ⟨gs, 0, none⟩)]) rfl trivial enter_bits1
      (bits_stops _ (by omega) gs (· < V1.heap.size) _ cb (by omega) _ (by simp; omega) (fun b h => by simp; omega) (f5.alloc _).one (f6.below ((Below.refl _ _).alloc (Nat.le_refl _) _)).toP) Keeps.trans (keeps_put (fun b h => by simp; omega)) (Below.refl _ _) (fun _ => rfl)
      (fun pre W => (pre <+: L ∧ True) ∧ Told L V1.heap.size V1 pre W)
      (fun c pre W => ((c = .ret ∧ ¬ (pre <+: L)) ∨ False) ∧ (c = .exit 2 → Told L V1.heap.size V1 pre W))
      (OwnFrom.and (ownFrom_pure _ _) (told_own L _ _ _ (by simp)))
      (fun c => told_ifown L _ _ _ (by simp) _ _ _)
      ⟨⟨List.nil_prefix, trivial⟩, hnb, (Below.refl _ _).alloc (Nat.le_refl _) _⟩
      ?a1C ?assignC ?bodyC ?doneC ?stopC
    case assignC =>
      intro l' x W K hK
      gi_wp2
      exact hK
    case bodyC =>
      rintro l' pre x W ⟨⟨hpre, hcnd⟩, hn, hB⟩ _
      have hple := hpre.length_le
      have htake := List.prefix_iff_eq_take.1 hpre
      have cn := hn.one
      have fn := hn.frozen 0
      have cwx := (f3.below hB f3.lt).one
      have ctx := (ct1.below hB ct1.lt).one
      have cmx := (f1.below hB f1.lt).one
      have crx := (f2.below hB f2.lt).one
      have frx := (f2.below hB f2.lt).frozen 0
      have hkf : ∀ u v, KeepsFrom (V1.alloc (.cells #[.int .i64 0] 3)).heap.size W (W.setCell u v) := fun u v => (KeepsOthers.setCell _ _ _).from _
      have hkf' : ∀ u v, KeepsFrom (V1.heap.size + 1) W (W.setCell u v) := fun u v => (KeepsOthers.setCell _ _ _).from _
      have hbs := hB.size
      by_cases hp : pre.length < L.length
      · obtain ⟨g, hAw, hg, hcell⟩ := f4 (by omega)
        subst hAw
        have cx : W.cell? ⟨g, pre.length, none⟩ = some (.int .i64 ((L[pre.length]?.getD 0 : Nat) : Int)) := (hB.cell (p := ⟨g, pre.length, none⟩) hg).trans (hcell _ hp)
        have dp : decide ((L.length : Int) ≤ (pre.length : Int)) = false := decide_eq_false (by omega)
        by_cases hx : x = L[pre.length]?.getD 0
        · have hnext : pre ++ [x] <+: L := by
            rw [hx, htake, List.length_take, Nat.min_eq_left hple, ← take_next L _ hp]
            exact List.take_prefix _ _
          have HN := Lib.hid hnext
          have hl1 : ((pre ++ [x]).length : Int) = (pre.length : Int) + 1 := by rw [List.length_append]; rfl
          have HL1 := Lib.hid hl1
          have HT : Hid (Told L V1.heap.size V1 (pre ++ [x]) (W.setCell ⟨V1.heap.size, 0, none⟩ (.int .i64 ((pre.length : Int) + 1)))) := by
            refine ⟨?_, hB.setCell (Nat.le_refl _) _⟩
            rw [hl1]
            exact hn.set_ 0 _
          have ex : ((x : Int) != ((L[pre.length]?.getD 0 : Nat) : Int)) = false := by rw [hx]; simp
          clear hx hnext hl1 htake hcell
          generalize L[pre.length]?.getD 0 = y at *
          gi_wp2
          exact ⟨by first | exact hkf _ _ | exact hkf' _ _, fun b hb => Below.heap_setCell W _ _ b (by simp; omega), ⟨HN.out, trivial⟩, HT.out⟩
        · have HN := Lib.hid (not_prefix L pre.length x (fun _ => hx) hple)
          have ex : ((x : Int) != ((L[pre.length]?.getD 0 : Nat) : Int)) = true := by rw [bne_iff_ne]; omega
          have HTk := Lib.hid htake
          clear hx htake hcell
          generalize L[pre.length]?.getD 0 = y at *
          gi_wp2
          exact ⟨by first | exact hkf _ _ | exact hkf' _ _, .inl ⟨rfl, by rw [HTk.out]; exact HN.out⟩, fun h => by cases h⟩
      · have dp : decide ((L.length : Int) ≤ (pre.length : Int)) = true := decide_eq_true (by omega)
        have HN := Lib.hid (not_prefix L pre.length x (fun h => absurd h hp) hple)
        have HTk := Lib.hid htake
        clear htake
        gi_wp2
        exact ⟨by first | exact hkf _ _ | exact hkf' _ _, .inl ⟨rfl, by rw [HTk.out]; exact HN.out⟩, fun h => by cases h⟩
    case doneC =>
      rintro D1 ys W hD rfl ⟨⟨hpre, hcnd⟩, hn, hB⟩ hK
      rw [hL] at hpre hn
      have hne1 : ((L.length : Int) != (L.length : Int)) = false := by simp
      have cn := hn.one
      have cwx := (f3.below hB f3.lt).one
      have ctx := (ct1.below hB ct1.lt).one
      have cmx := (f1.below hB f1.lt).one
      have crx := (f2.below hB f2.lt).one
      gi_wp2
      clear cn cwx ctx cmx crx
      obtain ⟨V2, hV2⟩ : ∃ V2, W.alloc (.cells #[.int .i64 2] 3) = V2 := ⟨_, rfl⟩
      rw [hV2]
      have hB12 : Below V1.heap.size V1 V2 := by rw [← hV2]; exact hB.alloc hB.size _
      have ct2 : Blk V2 W.heap.size 3 #[.int .i64 2] := by rw [← hV2]; exact Blk.new _ _ _
      have hlE := (Array.getElem?_eq_some_iff.1 hK).1
      have hE2 : V2.heap[D1]? = some (.deferred (some [])) := by rw [← hV2]; exact (Below.heap_alloc W _ D1 hlE).trans hK
      have hlE2 : D1 < V2.heap.size := (Array.getElem?_eq_some_iff.1 hE2).1
      have hD2 : V2.heap[D0]? = some (.deferred (some [])) := (hB12.block D0 hlD1).trans hD1
      have hlD2 : D0 < V2.heap.size := (Array.getElem?_eq_some_iff.1 hD2).1
      have F2 := F1.next hB12
      have hW2 := Below.next hW1 hB12
      have hne : D1 ≠ D0 := by
        simp at hD; omega
      have hDe : w.heap.size + 2 ≤ D1 := by
        simp at hD; omega
      obtain ⟨f1, f2, f3, f4, f5, f6⟩ := id F2
      have ctx := ct2.one
      rw [roundsIn_succ]
      gi_wp2_with fail
      refine ⟨trivial, (callsIn_wide.2 (works_any V2)).mono ?_⟩
      rintro e wf ⟨rfl, hBf⟩
      have crx := (f2.below hBf f2.lt).one
      have frx := (f2.below hBf f2.lt).frozen 0
      gi_wp2
      have hE3 : (wf.setCell ⟨w.heap.size + 1, 0, none⟩ (.bool true)).heap[D1]? = some (.deferred (some [])) := (KeepsOthers.setCell wf ⟨w.heap.size + 1, 0, none⟩ (.bool true)).same D1 _ ((hBf.block D1 hlE2).trans hE2) rfl
      have hD3 : (wf.setCell ⟨w.heap.size + 1, 0, none⟩ (.bool true)).heap[D0]? = some (.deferred (some [])) := (KeepsOthers.setCell wf ⟨w.heap.size + 1, 0, none⟩ (.bool true)).same D0 _ ((hBf.block D0 hlD2).trans hD2) rfl
      have hb3 := (f2.below hBf f2.lt).set_ 0 (.bool true)
      have hB3 : Below w.heap.size w (wf.setCell ⟨w.heap.size + 1, 0, none⟩ (.bool true)) := (Below.next hW2 hBf).setCell (by simp) _
      generalize wf.setCell ⟨w.heap.size + 1, 0, none⟩ (.bool true) = Wr at *
      have hD4 : (Wr.putObj D1 (.deferred none)).heap[D0]? = some (.deferred (some [])) := (World.putObj_heap_other (Ne.symm hne)).trans hD3
      have hB4 : Below w.heap.size Wr (Wr.putObj D1 (.deferred none)) := belowK_b (w := w) (Nat.le_refl _) _ D1 _ _ (by omega) hE3 rfl rfl
      have hb4 : Blk (Wr.putObj D1 (.deferred none)) (w.heap.size + 1) 4 #[.bool true] :=
        Blk.own (w.heap.size + 1) 4 (fun _ : Unit => #[.bool true]) () _ _ _ hb3 (grownBy_putObj' _ D1 (.deferred none)) (fun r e => by cases e; exact ⟨_, hE3, rfl⟩)
      have hB5 : Below w.heap.size (Wr.putObj D1 (.deferred none)) ((Wr.putObj D1 (.deferred none)).putObj D0 (.deferred none)) := belowK_b (w := w) (Nat.le_refl _) _ D0 _ _ (by omega) hD4 rfl rfl
      have hb5 : Blk ((Wr.putObj D1 (.deferred none)).putObj D0 (.deferred none)) (w.heap.size + 1) 4 #[.bool true] :=
        Blk.own (w.heap.size + 1) 4 (fun _ : Unit => #[.bool true]) () _ _ _ hb4 (grownBy_putObj' _ D0 (.deferred none)) (fun r e => by cases e; exact ⟨_, hD4, rfl⟩)
      have c5 := hb5.one
      refine ⟨by simp, .inl ⟨_, _, rfl, run_takeDeferred hE3, ?_⟩⟩
      refine ⟨by simp, .inl ⟨_, _, rfl, run_takeDeferred hD4, ?_⟩⟩
      exact ⟨.bool true, by simp [results, Try.results4, go_sem, c5], rfl, (hB3.trans hB4).trans hB5⟩
    case stopC =>
      rintro D1 c pre W hD ⟨hsp, hne⟩ ⟨hor, htold⟩ hK
      rw [hL] at hsp
      rcases hor with ⟨rfl, h⟩ | h
      · exact absurd hsp h
      · exact h.elim
end Go.Proofs.Ytklmkaafogekaaa.cellsAsks
