/- The law ShapeLines answers true for every input and leaves its arguments as they were. -/
import Derived.Test.YthhgalhabdkikaaDoorSLawKit
import Derived.Test.YthhgalhabdkikaaDoorCards
import Derived.Test.YthhgalhabdkikaaDoorTie
import Derived.SevenTiedAt
import Derived.Test.YthhgalhabdkikaaDoorSwN
namespace Go.Proofs.YthhgalhabdkikaaDoor.shapeLines
open Go.ChangeShapes Go.WideShapes Go.ChangeAt Go.RowKit Go.Shelf
set_option linter.unusedVariables false
set_option linter.unusedSimpArgs false
attribute [local go_sem] Oper.semAt_some

/-- What lies in memory: the code, the place, how many, the answer. -/
structure Facts (V : World) (B0 : Nat) (k p x y many : Int) : Prop where
  b0 : Blk V B0 24 #[.int .i64 k, .int .i64 p]
  b1 : Blk V (B0 + 1) 37 #[.int .i64 x, .int .i64 y]
  b2 : Blk V (B0 + 1 + 1) 3 #[.int .i64 many]
  b3 : Blk V (B0 + 1 + 1 + 1) 4 #[.bool false]
  hL : Laid V
theorem Facts.next {V V' : World} {b0 : Nat} {k p x y many : Int} (h : Facts V b0 k p x y many) (hB : Below V.heap.size V V') : Facts V' b0 k p x y many :=
  ⟨h.b0.below hB h.b0.lt, h.b1.below hB h.b1.lt, h.b2.below hB h.b2.lt, h.b3.below hB h.b3.lt, h.hL.next hB⟩
theorem Facts.undrew {V V' : World} {b0 : Nat} {k p x y many : Int} (h : Facts V b0 k p x y many) (hB : Below V.drew.heap.size V.drew V') : Facts V' b0 k p x y many := h.next (below_undrew hB)
theorem Facts.far {V : World} {b0 g : Nat} {k p x y many : Int} (h : Facts V b0 k p x y many) (hg : b0 + 1 + 1 + 1 < g) (hp : 1 < g) (v : Value) : Facts (V.setCell ⟨g, 0, none⟩ v) b0 k p x y many := by
  have hB : Below g V (V.setCell ⟨g, 0, none⟩ v) := (Below.refl g V).setCell (Nat.le_refl _) _
  exact ⟨h.b0.below hB (by omega), h.b1.below hB (by omega), h.b2.below hB (by omega), h.b3.below hB hg, h.hL.1.below hB hp, h.hL.2.below hB (by omega)⟩
/-- The rows that the document gives. -/
def RowsAre (k p x rows : Int) : Prop := (RightC k p ∧ HasCol k p x ∧ rows = p - 1) ∨ (¬ (RightC k p ∧ HasCol k p x) ∧ rows = 0)


theorem rows_len {k p x rows : Int} {zs : List Int} (h : RowsAre k p x rows) (hc : Column k p x zs) : rows = (zs.length : Int) ∧ (∀ n, n < zs.length → zs[n]?.getD 0 = (n : Int)) ∧ zs.length ≤ 17 := by
  rcases hc with ⟨hR, hC, rfl⟩ | ⟨hn, rfl⟩
  · have hr : rows = p - 1 := h.elim (fun h => h.2.2) (fun h => absurd ⟨hR, hC⟩ h.1)
    obtain ⟨_, e2, _⟩ := rows_walk p hR.2
    have := prm_bounds hR.2
    refine ⟨by rw [hr, e2], fun n hn => ?_, by omega⟩
    unfold rowsL at hn ⊢
    rw [List.length_map, List.length_range] at hn
    rw [List.getElem?_map, List.getElem?_range hn]; rfl
  · have hr : rows = 0 := h.elim (fun h => absurd ⟨h.1, h.2.1⟩ hn) (fun h => h.2)
    exact ⟨hr, fun n h => by simp at h, by simp⟩
/-- What a loop over a column keeps. -/
def Told (nb : Nat) (V : World) (pre : List Int) (W : World) : Prop := Blk W nb 3 #[.int .i64 (pre.length : Int)] ∧ Below V.heap.size V W
theorem told_far (nb B : Nat) (V : World) (hn : nb < B) (hB : V.heap.size ≤ B) : Far B (Told nb V) :=
  (far_blk hn _ (fun pre : List Int => #[.int .i64 (pre.length : Int)])).and (far_below (Nat.le_refl _) hB)
theorem told_if (nb B : Nat) (V : World) (hn : nb < B) (hB : V.heap.size ≤ B) (p q : List Int → Prop) : Far B (fun pre W => p pre ∨ (q pre ∧ Told nb V pre W)) := fun s X Y row hs hg hr =>
  hs.imp id fun h => ⟨h.1, told_far nb B V hn hB s X Y row h.2 hg hr⟩
theorem not_prefix (L : List Int) (n : Nat) (x : Int) (h : n < L.length → x ≠ L[n]?.getD 0) (hn : n ≤ L.length) : ¬ (L.take n ++ [x] <+: L) := by
  rintro ⟨t, ht⟩
  have hlen : n < L.length := by
    have := congrArg List.length ht
    rw [List.length_append, List.length_append, List.length_take] at this
    simp at this
    omega
  refine h hlen ?_
  have e := congrArg (fun z : List Int => z[n]?) ht
  rw [List.append_assoc, List.getElem?_append_right (by rw [List.length_take]; omega), List.length_take, show n - min n L.length = 0 by omega] at e
  simp at e
  rw [← e]; rfl
set_option maxRecDepth 100000 in
set_option maxHeartbeats 4000000 in
theorem main (k p x y many : Int) (w : World) (hL : Laid w) (wm : -9223372036854775808 ≤ many ∧ many ≤ 9223372036854775807) (d e0 s e1 : Int)
    (hdg : ∀ W, Laid W → Calls Tryd.prog 29 #[.agg #[.int .i64 k, .int .i64 p], .agg #[.int .i64 x, .int .i64 y]] W fun e w' => e = .returned (.tuple #[.int .i64 d, .int .i64 e0]) ∧ Below W.heap.size W w')
    (hsl : ∀ W, Laid W → Calls Tryd.prog 30 #[.agg #[.int .i64 k, .int .i64 p], .agg #[.int .i64 x, .int .i64 y]] W fun e w' => e = .returned (.tuple #[.int .i64 s, .int .i64 e1]) ∧ Below W.heap.size W w')
    (ho : (¬ RightC k p ∧ d = 0 ∧ e0 = 2 ∧ s = 0 ∧ e1 = 2) ∨ (RightC k p ∧ HasCell k p x y ∧ d = (x + y) % p ∧ e0 = 0 ∧ s = (y - x) % p ∧ e1 = 0) ∨ (RightC k p ∧ ¬ HasCell k p x y ∧ d = 0 ∧ e0 = 4 ∧ s = 0 ∧ e1 = 4)) :
    Calls Tryd.prog 5 #[.agg #[.int .i64 k, .int .i64 p], .agg #[.int .i64 x, .int .i64 y], .int .i64 many] w fun e w' => e = .returned (.bool true) ∧ Below w.heap.size w w' := by
  have HDg := Lib.hid hdg
  have HSl := Lib.hid hsl
  have HO := Lib.hid ho
  have HCe := Lib.hid (fun W hL => shapeCells_any k p x W hL)
  clear hdg hsl ho
  refine (callsIn_wide (n := 5)).1 ?_
  refine callsIn_of_wp_marks Tryd.func5 rfl trivial ?_ rfl
  simp only [Tryd.ntmps5, List.size_toArray, List.length_cons, List.length_nil, Nat.reduceAdd, Nat.reduceSub, Array.replicate_succ, Array.replicate_zero, List.push_toArray, List.append_toArray, List.nil_append, List.cons_append]
  refine wpIn_wide.2 ?_
  go_wp2_with fail
  obtain ⟨W4, hW4⟩ : ∃ W4, (((w.alloc (.cells #[.int .i64 k, .int .i64 p] 24)).alloc (.cells #[.int .i64 x, .int .i64 y] 37)).alloc (.cells #[.int .i64 many] 3)).alloc (.cells #[.bool false] 4) = W4 := ⟨_, rfl⟩
  have F : Facts W4 w.heap.size k p x y many := by
    have hB : Below w.heap.size w W4 := by rw [← hW4]; exact ((below_two w _ _).alloc (by simp; omega) _).alloc (by simp; omega) _
    refine ⟨?_, ?_, ?_, ?_, hL.next hB⟩
    · rw [← hW4]; exact (((Blk.new w _ _).alloc _).alloc _).alloc _
    · rw [← hW4]; exact ((Blk.second w _ _ _).alloc _).alloc _
    · rw [← hW4]
      have := (Blk.second (w.alloc (.cells #[.int .i64 k, .int .i64 p] 24)) (.cells #[.int .i64 x, .int .i64 y] 37) 3 #[.int .i64 many]).alloc (.cells #[.bool false] 4)
      rwa [World.size_alloc] at this
    · rw [← hW4]
      have := Blk.second ((w.alloc (.cells #[.int .i64 k, .int .i64 p] 24)).alloc (.cells #[.int .i64 x, .int .i64 y] 37)) (.cells #[.int .i64 many] 3) 4 #[.bool false]
      rwa [World.size_alloc, World.size_alloc] at this
  have hB : Below w.heap.size w W4 := by rw [← hW4]; exact ((below_two w _ _).alloc (by simp; omega) _).alloc (by simp; omega) _
  try rw [hW4]
  clear hW4
  refine (HDg.out _ F.hL).mono ?_
  rintro e w1 ⟨rfl, hB1⟩
  replace F := F.next hB1
  replace hB := below_in hB hB1
  have c0 := (Facts.b0 F).cell 0
  have c1 := (Facts.b0 F).cell 1
  have a0 := (Facts.b1 F).cell 0
  have a1 := (Facts.b1 F).cell 1
  simp only [List.getElem?_toArray, List.getElem?_cons_zero, List.getElem?_cons_succ] at c0 c1 a0 a1
  go_wp2_with fail
  refine (HSl.out _ F.hL).mono ?_
  rintro e wr ⟨rfl, hB2⟩
  replace F := F.next hB2
  replace hB := below_in hB hB2
  clear HDg HSl hB1 c0 c1 a0 a1
  have c0 := (Facts.b0 F).cell 0
  have c1 := (Facts.b0 F).cell 1
  have a0 := (Facts.b1 F).cell 0
  have a1 := (Facts.b1 F).cell 1
  simp only [List.getElem?_toArray, List.getElem?_cons_zero, List.getElem?_cons_succ] at c0 c1 a0 a1
  have hB3 := below_one wr (.cells #[.int .i64 0] 3)
  have br := Blk.new wr 3 #[.int .i64 0]
  have hrl := F.b3.lt
  have hrp := F.hL.pos
  have F2 := F.next hB3
  have hBz := below_in hB hB3
  clear hB F c0 c1 a0 a1 hB2 hB3
  have F := F2
  have hB := hBz
  clear F2 hBz
  have c0 := (Facts.b0 F).cell 0
  have c1 := (Facts.b0 F).cell 1
  have a0 := (Facts.b1 F).cell 0
  have a1 := (Facts.b1 F).cell 1
  simp only [List.getElem?_toArray, List.getElem?_cons_zero, List.getElem?_cons_succ] at c0 c1 a0 a1
  go_upto_region 4 with fail
  go_cut [32] from 31 to 32 (fun sx wx => ∃ b, sx = .bool b ∧ Hid ((b = true ∧ RightC k p) ∨ (b = false ∧ ¬ RightC k p)) ∧ Facts wx w.heap.size k p x y many ∧ Blk wx wr.heap.size 3 #[.int .i64 0] ∧ Below w.heap.size w wx)
  case first =>
    by_cases hR : RightC k p
    · have HQ := Lib.hid (fun W => (refRight_any k p W).mono fun _ _ h => And.intro (h.1 hR) h.2.2)
      have HR := Lib.hid hR
      clear hR
      go_wp2_with (go_at_call 8; refine (HQ.out _).mono ?_; rintro e w1 ⟨rfl, hB1⟩; (first | replace F := F.next hB1 | replace F := F.undrew hB1); (first | replace br := br.below hB1 br.lt | replace br := br.nextd hB1); (first | replace hB := below_in hB hB1 | replace hB := below_in hB.drew hB1); have c0 := (Facts.b0 F).cell 0; have c1 := (Facts.b0 F).cell 1; have a0 := (Facts.b1 F).cell 0; have a1 := (Facts.b1 F).cell 1; simp only [List.getElem?_toArray, List.getElem?_cons_zero, List.getElem?_cons_succ] at c0 c1 a0 a1)
      go_meet
      exact ⟨true, rfl, Lib.hid (.inl ⟨rfl, HR.out⟩), F, br, hB⟩
    · have HQ := Lib.hid (fun W => (refRight_any k p W).mono fun _ _ h => And.intro (h.2.1 hR) h.2.2)
      have HR := Lib.hid hR
      clear hR
      go_wp2_with (go_at_call 8; refine (HQ.out _).mono ?_; rintro e w1 ⟨rfl, hB1⟩; (first | replace F := F.next hB1 | replace F := F.undrew hB1); (first | replace br := br.below hB1 br.lt | replace br := br.nextd hB1); (first | replace hB := below_in hB hB1 | replace hB := below_in hB.drew hB1); have c0 := (Facts.b0 F).cell 0; have c1 := (Facts.b0 F).cell 1; have a0 := (Facts.b1 F).cell 0; have a1 := (Facts.b1 F).cell 1; simp only [List.getElem?_toArray, List.getElem?_cons_zero, List.getElem?_cons_succ] at c0 c1 a0 a1)
      go_meet
      exact ⟨false, rfl, Lib.hid (.inr ⟨rfl, HR.out⟩), F, br, hB⟩
  case rest =>
  obtain ⟨b, rfl, Hb, F, br, hB⟩ := hcut
  clear c0 c1 a0 a1
  have c0 := (Facts.b0 F).cell 0
  have c1 := (Facts.b0 F).cell 1
  have a0 := (Facts.b1 F).cell 0
  have a1 := (Facts.b1 F).cell 1
  simp only [List.getElem?_toArray, List.getElem?_cons_zero, List.getElem?_cons_succ] at c0 c1 a0 a1
  go_upto_if 32 with fail
  go_cut [11, 12, 13] from 33 to 53 (fun s11 s12 s13 wx => ∃ no X Y rows : Int, s11 = .int .i64 no ∧ s12 = .int .i64 X ∧ s13 = .int .i64 Y ∧ Hid (toldB d e0 no X = true ∧ toldB s e1 no Y = true ∧ RowsAre k p x rows) ∧ Facts wx w.heap.size k p x y many ∧ Blk wx wr.heap.size 3 #[.int .i64 rows] ∧ Below w.heap.size w wx)
  case first =>
    rcases Hb.out with ⟨rfl, hR⟩ | ⟨rfl, hR⟩
    · obtain ⟨p1, p2, s1, s2, m1, m2⟩ := hR.und
      have HCo := Lib.hid (fun W => refCols_any k p hR W)
      have HRw := Lib.hid (fun W => refRows_any k p hR W)
      have hi : d = (x + y) % p ∧ e0 = 0 ∧ s = (y - x) % p ∧ e1 = 0 ∧ HasCell k p x y ∨ d = 0 ∧ e0 = 4 ∧ s = 0 ∧ e1 = 4 ∧ ¬ HasCell k p x y :=
        HO.out.elim (fun h => absurd hR h.1) (fun h => h.elim (fun h => .inl ⟨h.2.2.1, h.2.2.2.1, h.2.2.2.2.1, h.2.2.2.2.2, h.2.1⟩) (fun h => .inr ⟨h.2.2.1, h.2.2.2.1, h.2.2.2.2.1, h.2.2.2.2.2, h.2.1⟩))
      have HI := Lib.hid hi
      clear hi
      by_cases h1 : HasCol k p x
      · have hd : decide (0 ≤ x) = true := decide_eq_true h1.1
        have hd2 : decide (x < p - shortN k + madeN k) = true := decide_eq_true h1.2
        have HRr : Hid (RowsAre k p x (p - 1)) := .inl ⟨hR, h1, rfl⟩
        have hxb : 0 ≤ x ∧ x < 24 := ⟨h1.1, by have := h1.2; omega⟩
        have HThere := Lib.hid (refThere_any k p x y hR)
        have HDg4 := Lib.hid (fun hx hy W => refDiagonal_any k p x y hR hx hy W)
        have HSl4 := Lib.hid (fun hx hy W => refSlant_any k p x y hR hx hy W)
        clear h1 hR
        generalize shortN k = ss at *
        generalize madeN k = mm at *
        go_wp2_with fail
        go_region_held3 (fun W => W.cell? ⟨w.heap.size, 0, none⟩ = some (.int .i64 k) ∧ W.cell? ⟨w.heap.size, 1, none⟩ = some (.int .i64 p) ∧ W.cell? ⟨w.heap.size + 1, 0, none⟩ = some (.int .i64 x) ∧ W.cell? ⟨w.heap.size + 1, 1, none⟩ = some (.int .i64 y))
          (exact ⟨(Facts.b0 F).cell 0, (Facts.b0 F).cell 1, (Facts.b1 F).cell 0, (Facts.b1 F).cell 1⟩) (first
          | (go_at_call 11; refine (HCo.out _).mono ?_; rintro e w1 ⟨rfl, hB1⟩; (first | replace F := F.next hB1 | replace F := F.undrew hB1); (first | replace br := br.below hB1 br.lt | replace br := br.nextd hB1); (first | replace hB := below_in hB hB1 | replace hB := below_in hB.drew hB1); have c0 := (Facts.b0 F).cell 0; have c1 := (Facts.b0 F).cell 1; have a0 := (Facts.b1 F).cell 0; have a1 := (Facts.b1 F).cell 1; simp only [List.getElem?_toArray, List.getElem?_cons_zero, List.getElem?_cons_succ] at c0 c1 a0 a1))
        go_upto_region 8 with (first | (go_at_call 9; refine (HRw.out _).mono ?_; rintro e w1 ⟨rfl, hB1⟩; (first | replace F := F.next hB1 | replace F := F.undrew hB1); (first | replace br := br.below hB1 br.lt | replace br := br.nextd hB1); (first | replace hB := below_in hB hB1 | replace hB := below_in hB.drew hB1); have c0 := (Facts.b0 F).cell 0; have c1 := (Facts.b0 F).cell 1; have a0 := (Facts.b1 F).cell 0; have a1 := (Facts.b1 F).cell 1; simp only [List.getElem?_toArray, List.getElem?_cons_zero, List.getElem?_cons_succ] at c0 c1 a0 a1; have cr := br.one; have fr := br.frozen 0))
        have F8 := F.far hrl hrp (.int .i64 (p - 1))
        have br8 := br.set_ 0 (.int .i64 (p - 1))
        have hB8 := hB.setCell (p := ⟨wr.heap.size, 0, none⟩) (show w.heap.size ≤ wr.heap.size by omega) (.int .i64 (p - 1))
        simp only [List.setIfInBounds_toArray, List.set_cons_zero] at br8
        generalize w1.setCell ⟨wr.heap.size, 0, none⟩ (.int .i64 (p - 1)) = W8 at F8 br8 hB8 ⊢
        clear F br hB c0 c1 a0 a1
        have F := F8
        have br := br8
        have hB := hB8
        clear F8 br8 hB8
        have c0 := (Facts.b0 F).cell 0
        have c1 := (Facts.b0 F).cell 1
        have a0 := (Facts.b1 F).cell 0
        have a1 := (Facts.b1 F).cell 1
        simp only [List.getElem?_toArray, List.getElem?_cons_zero, List.getElem?_cons_succ] at c0 c1 a0 a1
        rcases HI.out with ⟨i1, i2, i3, i4, i5⟩ | ⟨i1, i2, i3, i4, i5⟩
        · have HT := Lib.hid (fun W => (HThere.out W).mono fun _ _ h => And.intro (h.1 i5) h.2.2)
          have HD5 := Lib.hid (HDg4.out hxb ⟨i5.2.1, by have := i5.2.2; omega⟩)
          have HS5 := Lib.hid (HSl4.out hxb ⟨i5.2.1, by have := i5.2.2; omega⟩)
          have HX : Hid (toldB d e0 0 ((x + y) % p) = true ∧ toldB s e1 0 ((y - x) % p) = true ∧ RowsAre k p x (p - 1)) := by
            rw [i1, i2, i3, i4]
            exact ⟨by simp [toldB], by simp [toldB], HRr.out⟩
          clear i1 i2 i3 i4 i5
          go_upto_region 9 with (go_at_call 28; refine (HT.out _).mono ?_; rintro e w1 ⟨rfl, hB1⟩; (first | replace F := F.next hB1 | replace F := F.undrew hB1); (first | replace br := br.below hB1 br.lt | replace br := br.nextd hB1); (first | replace hB := below_in hB hB1 | replace hB := below_in hB.drew hB1); have c0 := (Facts.b0 F).cell 0; have c1 := (Facts.b0 F).cell 1; have a0 := (Facts.b1 F).cell 0; have a1 := (Facts.b1 F).cell 1; simp only [List.getElem?_toArray, List.getElem?_cons_zero, List.getElem?_cons_succ] at c0 c1 a0 a1)
          go_region_held3 (fun W => W.cell? ⟨w.heap.size, 0, none⟩ = some (.int .i64 k) ∧ W.cell? ⟨w.heap.size, 1, none⟩ = some (.int .i64 p) ∧ W.cell? ⟨w.heap.size + 1, 0, none⟩ = some (.int .i64 x) ∧ W.cell? ⟨w.heap.size + 1, 1, none⟩ = some (.int .i64 y))
            (exact ⟨(Facts.b0 F).cell 0, (Facts.b0 F).cell 1, (Facts.b1 F).cell 0, (Facts.b1 F).cell 1⟩) (first
            | (go_at_call 31; refine (HD5.out _).mono ?_; rintro e w1 ⟨rfl, hB1⟩; (first | replace F := F.next hB1 | replace F := F.undrew hB1); (first | replace br := br.below hB1 br.lt | replace br := br.nextd hB1); (first | replace hB := below_in hB hB1 | replace hB := below_in hB.drew hB1); have c0 := (Facts.b0 F).cell 0; have c1 := (Facts.b0 F).cell 1; have a0 := (Facts.b1 F).cell 0; have a1 := (Facts.b1 F).cell 1; simp only [List.getElem?_toArray, List.getElem?_cons_zero, List.getElem?_cons_succ] at c0 c1 a0 a1)
            | (go_at_call 32; refine (HS5.out _).mono ?_; rintro e w1 ⟨rfl, hB1⟩; (first | replace F := F.next hB1 | replace F := F.undrew hB1); (first | replace br := br.below hB1 br.lt | replace br := br.nextd hB1); (first | replace hB := below_in hB hB1 | replace hB := below_in hB.drew hB1); have c0 := (Facts.b0 F).cell 0; have c1 := (Facts.b0 F).cell 1; have a0 := (Facts.b1 F).cell 0; have a1 := (Facts.b1 F).cell 1; simp only [List.getElem?_toArray, List.getElem?_cons_zero, List.getElem?_cons_succ] at c0 c1 a0 a1))
          all_goals go_wp2
          all_goals go_meet
          all_goals exact ⟨0, _, _, p - 1, rfl, rfl, rfl, HX, F, br, hB⟩
        · have HT := Lib.hid (fun W => (HThere.out W).mono fun _ _ h => And.intro (h.2.1 i5) h.2.2)
          have HX : Hid (toldB d e0 4 0 = true ∧ toldB s e1 4 0 = true ∧ RowsAre k p x (p - 1)) := by
            rw [i1, i2, i3, i4]
            exact ⟨by decide, by decide, HRr.out⟩
          clear i1 i2 i3 i4 i5
          go_wp2_with (go_at_call 28; refine (HT.out _).mono ?_; rintro e w1 ⟨rfl, hB1⟩; (first | replace F := F.next hB1 | replace F := F.undrew hB1); (first | replace br := br.below hB1 br.lt | replace br := br.nextd hB1); (first | replace hB := below_in hB hB1 | replace hB := below_in hB.drew hB1); have c0 := (Facts.b0 F).cell 0; have c1 := (Facts.b0 F).cell 1; have a0 := (Facts.b1 F).cell 0; have a1 := (Facts.b1 F).cell 1; simp only [List.getElem?_toArray, List.getElem?_cons_zero, List.getElem?_cons_succ] at c0 c1 a0 a1)
          go_meet
          exact ⟨4, 0, 0, p - 1, rfl, rfl, rfl, HX, F, br, hB⟩
      · have hnc : ¬ HasCell k p x y := fun h => h1 h.1
        have HT := Lib.hid (fun W => (refThere_any k p x y hR W).mono fun _ _ h => And.intro (h.2.1 hnc) h.2.2)
        have HX : Hid (toldB d e0 4 0 = true ∧ toldB s e1 4 0 = true ∧ RowsAre k p x 0) := by
          rcases HI.out with ⟨_, _, _, _, i5⟩ | ⟨i1, i2, i3, i4, _⟩
          · exact absurd i5 hnc
          · rw [i1, i2, i3, i4]
            exact ⟨by decide, by decide, .inr ⟨fun h => h1 h.2, rfl⟩⟩
        clear hnc hR
        by_cases h2 : x < 0
        · have hd : decide (0 ≤ x) = false := decide_eq_false (by omega)
          clear h1
          go_wp2_with fail
          go_quiet (fail)
          replace hB := below_drewN hB nq
          replace F := F.next (below_drewN (Below.refl _ _) nq)
          replace br := br.below (below_drewN (Below.refl _ _) nq) br.lt
          have c0 := (Facts.b0 F).cell 0
          have c1 := (Facts.b0 F).cell 1
          have a0 := (Facts.b1 F).cell 0
          have a1 := (Facts.b1 F).cell 1
          simp only [List.getElem?_toArray, List.getElem?_cons_zero, List.getElem?_cons_succ] at c0 c1 a0 a1
          go_wp2_with (go_at_call 28; refine (HT.out _).mono ?_; rintro e w1 ⟨rfl, hB1⟩; (first | replace F := F.next hB1 | replace F := F.undrew hB1); (first | replace br := br.below hB1 br.lt | replace br := br.nextd hB1); (first | replace hB := below_in hB hB1 | replace hB := below_in hB.drew hB1); have c0 := (Facts.b0 F).cell 0; have c1 := (Facts.b0 F).cell 1; have a0 := (Facts.b1 F).cell 0; have a1 := (Facts.b1 F).cell 1; simp only [List.getElem?_toArray, List.getElem?_cons_zero, List.getElem?_cons_succ] at c0 c1 a0 a1)
          go_meet
          exact ⟨4, 0, 0, 0, rfl, rfl, rfl, HX, F, br, hB⟩
        · have hd : decide (0 ≤ x) = true := decide_eq_true (by omega)
          have hd2 : decide (x < p - shortN k + madeN k) = false := decide_eq_false (fun h => h1 ⟨by omega, h⟩)
          clear h1
          generalize shortN k = ss at *
          generalize madeN k = mm at *
          go_wp2_with fail
          go_region_held3 (fun W => W.cell? ⟨w.heap.size, 0, none⟩ = some (.int .i64 k) ∧ W.cell? ⟨w.heap.size, 1, none⟩ = some (.int .i64 p) ∧ W.cell? ⟨w.heap.size + 1, 0, none⟩ = some (.int .i64 x) ∧ W.cell? ⟨w.heap.size + 1, 1, none⟩ = some (.int .i64 y))
            (exact ⟨(Facts.b0 F).cell 0, (Facts.b0 F).cell 1, (Facts.b1 F).cell 0, (Facts.b1 F).cell 1⟩) (first
            | (go_at_call 11; refine (HCo.out _).mono ?_; rintro e w1 ⟨rfl, hB1⟩; (first | replace F := F.next hB1 | replace F := F.undrew hB1); (first | replace br := br.below hB1 br.lt | replace br := br.nextd hB1); (first | replace hB := below_in hB hB1 | replace hB := below_in hB.drew hB1); have c0 := (Facts.b0 F).cell 0; have c1 := (Facts.b0 F).cell 1; have a0 := (Facts.b1 F).cell 0; have a1 := (Facts.b1 F).cell 1; simp only [List.getElem?_toArray, List.getElem?_cons_zero, List.getElem?_cons_succ] at c0 c1 a0 a1))
          have c0 := (Facts.b0 F).cell 0
          have c1 := (Facts.b0 F).cell 1
          have a0 := (Facts.b1 F).cell 0
          have a1 := (Facts.b1 F).cell 1
          simp only [List.getElem?_toArray, List.getElem?_cons_zero, List.getElem?_cons_succ] at c0 c1 a0 a1
          go_wp2_with (go_at_call 28; refine (HT.out _).mono ?_; rintro e w1 ⟨rfl, hB1⟩; (first | replace F := F.next hB1 | replace F := F.undrew hB1); (first | replace br := br.below hB1 br.lt | replace br := br.nextd hB1); (first | replace hB := below_in hB hB1 | replace hB := below_in hB.drew hB1); have c0 := (Facts.b0 F).cell 0; have c1 := (Facts.b0 F).cell 1; have a0 := (Facts.b1 F).cell 0; have a1 := (Facts.b1 F).cell 1; simp only [List.getElem?_toArray, List.getElem?_cons_zero, List.getElem?_cons_succ] at c0 c1 a0 a1)
          go_meet
          exact ⟨4, 0, 0, 0, rfl, rfl, rfl, HX, F, br, hB⟩
    · have hx : d = 0 ∧ e0 = 2 ∧ s = 0 ∧ e1 = 2 := HO.out.elim (fun h => h.2) (fun h => h.elim (fun h => absurd h.1 hR) (fun h => absurd h.1 hR))
      have HX : Hid (toldB d e0 2 0 = true ∧ toldB s e1 2 0 = true ∧ RowsAre k p x 0) := by
        obtain ⟨rfl, rfl, rfl, rfl⟩ := hx
        exact ⟨by decide, by decide, .inr ⟨fun h => hR h.1, rfl⟩⟩
      clear hx hR
      go_wp2_with fail
      go_meet
      exact ⟨2, 0, 0, 0, rfl, rfl, rfl, HX, F, br, hB⟩
  case rest =>
  obtain ⟨no, X, Y, rows, rfl, rfl, rfl, HX, F, br, hB⟩ := hcut
  clear c0 c1 a0 a1 Hb HO
  have c0 := (Facts.b0 F).cell 0
  have c1 := (Facts.b0 F).cell 1
  have a0 := (Facts.b1 F).cell 0
  have a1 := (Facts.b1 F).cell 1
  simp only [List.getElem?_toArray, List.getElem?_cons_zero, List.getElem?_cons_succ] at c0 c1 a0 a1
  obtain ⟨t1, t2, hrw⟩ := HX.out
  have HRw := Lib.hid hrw
  clear hrw HX
  go_upto_region 12 with (go_at_call 21; refine (told_any _ _ _ _ _).mono ?_; rintro e w' ⟨rfl, rfl⟩)
  obtain ⟨W6, hW6⟩ : ∃ W6, W6 = wc := ⟨_, rfl⟩
  subst hW6
  go_wp2_with fail
  refine (HCe.out _ F.hL).mono ?_
  rintro e w7 ⟨v, rfl, ⟨zs, hcol, gf, lb, rfl, eg, eq, hg⟩, hB7⟩
  obtain ⟨hrl2, hz, hz17⟩ := rows_len HRw.out hcol
  have HZ := Lib.hid hz
  clear hcol hz HRw HCe t1 t2 c0 c1 a0 a1
  subst hrl2
  have hs6 := hB7.size
  have F7 := F.next hB7
  have br7 := br.below hB7 br.lt
  have hB6 := below_in hB hB7
  clear F br hB
  go_wp2_with fail
  obtain ⟨V0, hV0⟩ : ∃ V0, w7.alloc (.cells #[.int .i64 0] 3) = V0 := ⟨_, rfl⟩
  have hB70 : Below w7.heap.size w7 V0 := by rw [← hV0]; exact below_one w7 _
  have ct0 : Blk V0 w7.heap.size 3 #[.int .i64 0] := by rw [← hV0]; exact Blk.new _ _ _
  have F0 := F7.next hB70
  have br0 := br7.below hB70 br7.lt
  have hW0 := below_in hB6 hB70
  have hs7 : w7.heap.size < V0.heap.size := ct0.lt
  have hrw7 := br7.lt
  rw [hV0]
  clear hV0 F7 br7 hB6
  refine (wpIn_wide (n := 5)).1 ?_
  refine loop_left [16, 17, 72, 73, 74, 75, 76, 77, 78, 100, 101, 102, 103, 104, 105, 106, 107, 108, 109, 110, 111, 112, 113, 114, 115, 116, 117, 118, 119] (fun m vs Ds V => ∃ (t Bt : Nat) (y17 y72 y73 y74 y75 y76 y77 y78 y100 y101 y102 y103 y104 y105 y106 y107 y108 y109 y110 y111 y112 y113 y114 y115 y116 y117 y118 y119 : Value), vs = [.pointer (some ⟨Bt, 0, none⟩), y17, y72, y73, y74, y75, y76, y77, y78, y100, y101, y102, y103, y104, y105, y106, y107, y108, y109, y110, y111, y112, y113, y114, y115, y116, y117, y118, y119] ∧ t + m = 2 ∧ w7.heap.size ≤ Bt ∧ Blk V Bt 3 #[.int .i64 (t : Int)] ∧ Facts V w.heap.size k p x y many ∧ Blk V wr.heap.size 3 #[.int .i64 (zs.length : Int)] ∧ Left w.heap.size V Ds ∧ Below V0.heap.size V0 V) 2
    [.pointer (some ⟨w7.heap.size, 0, none⟩), undef, undef, undef, undef, undef, undef, undef, undef, undef, undef, undef, undef, undef, undef, undef, undef, undef, undef, undef, undef, undef, undef, undef, undef, undef, undef, undef, undef] (by kernel_rfl) ⟨0, w7.heap.size, _, _, _, _, _, _, _, _, _, _, _, _, _, _, _, _, _, _, _, _, _, _, _, _, _, _, _, _, rfl, rfl, Nat.le_refl _, ct0, F0, br0, Left.nil _ _, Below.refl _ _⟩ ?_
  clear F0 br0 ct0
  rintro m vs Ds V ⟨t, Bt, y17, y72, y73, y74, y75, y76, y77, y78, y100, y101, y102, y103, y104, y105, y106, y107, y108, y109, y110, y111, y112, y113, y114, y115, y116, y117, y118, y119, rfl, htm, hBt, ct, F, br, hLeft, hBV⟩ K hK
  simp only [sets, List.setIfInBounds_toArray, List.set_cons_zero, List.set_cons_succ]
  have hs0 := hBV.size
  have hW := below_in hW0 hBV
  have ctx := ct.one
  have l1 := F.b0.lt
  have l2 := F.b1.lt
  have l3 := F.b2.lt
  have l4 := F.b3.lt
  have lt := ct.lt
  have lr := br.lt
  obtain rfl | rfl | rfl : t = 0 ∨ t = 1 ∨ t = 2 := by omega
  · gi_wp2_with fail
    have hnb : Blk (V.alloc (.cells #[.int .i64 0] 3)) V.heap.size 3 #[.int .i64 (([] : List Int).length : Int)] := Blk.new _ _ _
    refine wpIn_rangeBox rfl (by omega) (gf := gf) (lb := lb) rfl trivial eg (hg 4 (by omega)) (fun h h' => h.trans h') (fun W l o hl => Keep.putFar W (by simp at hl; omega) o) (below_in (below_in hB70 hBV) (below_one V _)) (fun _ => rfl)
      (fun pre W => (pre <+: zs ∧ (pre.length = 0 ∨ (pre.length : Int) < many)) ∧ Told V.heap.size V pre W)
      (fun c pre W => (c = .ret ∧ ¬ (pre <+: zs)) ∨ ((c = .exit 2 ∧ 1 ≤ pre.length ∧ (pre.length = 1 ∨ (pre.length : Int) - 1 < many) ∧ many ≤ (pre.length : Int) ∧ pre <+: zs) ∧ Told V.heap.size V pre W))
      ((far_pure _ _).and (told_far _ _ _ (by simp) (by simp)))
      (fun c => told_if _ _ _ (by simp) (by simp) (fun pre => c = .ret ∧ ¬ (pre <+: zs)) (fun pre => (c = .exit 2 ∧ 1 ≤ pre.length ∧ (pre.length = 1 ∨ (pre.length : Int) - 1 < many) ∧ many ≤ (pre.length : Int) ∧ pre <+: zs)))
      ⟨⟨List.nil_prefix, .inl rfl⟩, hnb, below_one V _⟩
      37 (fun z : Int => #[.int .i64 x, .int .i64 z]) ?a1_0
      ?assign_0 ?body_0 ?done_0 ?stop_0
    case assign_0 =>
      rintro l' pre z W K hsz ⟨hp, hn, hB⟩ hK
      gi_wp2
      have hbx := Blk.new W 37 #[.int .i64 x, .int .i64 z]
      have hsn := hn.lt
      have hSi : Since (V.alloc (.cells #[.int .i64 0] 3)).heap.size W (W.alloc (.cells #[.int .i64 x, .int .i64 z] 37)) := Since.below (below_one W _)
      have hKe : Keep W6.heap.size (w7.heap.size - W6.heap.size) W (W.alloc (.cells #[.int .i64 x, .int .i64 z] 37)) := Keep.alloc (by omega) _
      have hTo : Told V.heap.size V pre (W.alloc (.cells #[.int .i64 x, .int .i64 z] 37)) := ⟨hn.alloc _, hB.alloc hB.size _⟩
      generalize W.alloc (.cells #[.int .i64 x, .int .i64 z] 37) = W' at *
      generalize W.heap.size = Bx at *
      exact hK Bx _ hSi hKe ⟨hp, hTo⟩ hbx
    case body_0 =>
      rintro l' pre z Bx W hsz ⟨⟨hpre, hcnd⟩, hn, hB⟩ hbx hlt
      have hple := hpre.length_le
      have htake := List.prefix_iff_eq_take.1 hpre
      have cn := hn.one
      have fn := hn.frozen 0
      have cwx := (br.below hB br.lt).one
      have cty := (ct.below hB ct.lt).one
      have cmx := (F.b2.below hB F.b2.lt).one
      have crx := (F.b3.below hB F.b3.lt).one
      have frx := (F.b3.below hB F.b3.lt).frozen 0
      have a0 := (F.b1.below hB F.b1.lt).cell 0
      have z0 := hbx.cell 0
      have z1 := hbx.cell 1
      simp only [List.getElem?_toArray, List.getElem?_cons_zero, List.getElem?_cons_succ] at a0 z0 z1
      have hbs := hB.size
      rcases Nat.lt_or_ge pre.length zs.length with hlz | hlz
      · have dp : decide ((zs.length : Int) ≤ (pre.length : Int)) = false := decide_eq_false (by omega)
        by_cases hx : z = (pre.length : Int)
        · have hnext : pre ++ [z] <+: zs := by
            rw [hx, ← HZ.out _ hlz]
            have e := take_next zs hlz
            rw [← htake] at e
            rw [← e]
            exact List.take_prefix _ _
          have HN := Lib.hid hnext
          have hl1 : ((pre ++ [z]).length : Int) = (pre.length : Int) + 1 := by rw [List.length_append]; rfl
          have HL1 := Lib.hid hl1
          have HT : Hid (Told V.heap.size V (pre ++ [z]) (W.setCell ⟨V.heap.size, 0, none⟩ (.int .i64 ((pre.length : Int) + 1)))) := by
            refine ⟨?_, hB.setCell (Nat.le_refl _) _⟩
            rw [hl1]
            exact hn.set_ 0 _
          have ex : ((z : Int) == (pre.length : Int)) = true := by rw [hx]; simp
          clear hx hnext hl1 htake
          by_cases hm : many ≤ (pre.length : Int) + 1
          · have dm : decide (many ≤ (pre.length : Int) + 1) = true := decide_eq_true hm
            gi_wp2
            refine ⟨Since.setCell _ (by simp) _, .inr ⟨⟨rfl, by rw [List.length_append]; simp, ?_, ?_, HN.out⟩, HT.out⟩⟩
            · rcases hcnd with h | h
              · left; rw [List.length_append, h]; rfl
              · right; rw [HL1.out]; omega
            · rw [HL1.out]; exact hm
          · have dm : decide (many ≤ (pre.length : Int) + 1) = false := decide_eq_false hm
            gi_wp2
            refine ⟨Since.setCell _ (by simp) _, Keep.setFar _ (by simp; omega) _, ⟨HN.out, .inr ?_⟩, HT.out⟩
            rw [HL1.out]; omega
        · have HN := Lib.hid (not_prefix zs pre.length z (fun _ => by rw [HZ.out _ hlz]; exact hx) hple)
          have ex : ((z : Int) == (pre.length : Int)) = false := by simpa using hx
          have HTk := Lib.hid htake
          clear hx htake
          gi_wp2
          exact ⟨Since.setCell _ (by simp; omega) _, .inl ⟨rfl, by rw [HTk.out]; exact HN.out⟩⟩
      · have dp : decide ((zs.length : Int) ≤ (pre.length : Int)) = true := decide_eq_true (by omega)
        have HN := Lib.hid (not_prefix zs pre.length z (fun h => by omega) hple)
        have HTk := Lib.hid htake
        clear htake
        gi_wp2
        exact ⟨Since.setCell _ (by simp; omega) _, .inl ⟨rfl, by rw [HTk.out]; exact HN.out⟩⟩
    case done_0 =>
      rintro D ys W hD eys ⟨⟨hpre, hcnd⟩, hn, hB⟩ hKD
      obtain rfl := eys.symm
      have hmin : ((zs.length : Int) != min (zs.length : Int) (max 1 many)) = false := by
        rw [bne_eq_false_iff_eq]; rcases hcnd with h | h <;> omega
      have cn := hn.one
      have cwx := (br.below hB br.lt).one
      have cty := (ct.below hB ct.lt).one
      have cmx := (F.b2.below hB F.b2.lt).one
      have lt0 := hB.size
      gi_wp2
      all_goals
        obtain ⟨V1, hV1⟩ : ∃ V1, W.alloc (.cells #[.int .i64 1] 3) = V1 := ⟨_, rfl⟩
        rw [hV1]
        have hB1 : Below V.heap.size V V1 := by rw [← hV1]; exact hB.alloc hB.size _
        have ct1 : Blk V1 W.heap.size 3 #[.int .i64 (1 : Nat)] := by rw [← hV1]; exact Blk.new _ _ _
        have hlD := (Array.getElem?_eq_some_iff.1 hKD).1
        have hD1 : V1.heap[D]? = some (.deferred (some [])) := by rw [← hV1]; exact (Below.heap_alloc W _ D hlD).trans hKD
        have hL1 := hLeft.more hB1 (by have := hW.size; simp at hD; omega) (by simp at hD; omega) hD1
        have hz := fun (z16 z17 z72 z73 z74 z75 z76 z77 z78 z100 z101 z102 z103 z104 z105 z106 z107 z108 z109 z110 z111 z112 z113 z114 z115 z116 z117 z118 z119 : Value) hr => hK 1 [z16, z17, z72, z73, z74, z75, z76, z77, z78, z100, z101, z102, z103, z104, z105, z106, z107, z108, z109, z110, z111, z112, z113, z114, z115, z116, z117, z118, z119] (D :: Ds) V1 (by omega) hr
        simp only [sets, List.setIfInBounds_toArray, List.set_cons_zero, List.set_cons_succ] at hz
        refine hz _ _ _ _ _ _ _ _ _ _ _ _ _ _ _ _ _ _ _ _ _ _ _ _ _ _ _ _ _ ⟨1, W.heap.size, _, _, _, _, _, _, _, _, _, _, _, _, _, _, _, _, _, _, _, _, _, _, _, _, _, _, _, _, rfl, by omega, by omega, ct1, F.next hB1, br.below hB1 br.lt, hL1, below_in hBV hB1⟩
    case stop_0 =>
      rintro D c pre W hD hsp hor hKD
      rcases hor with ⟨rfl, h⟩ | ⟨⟨rfl, hx1, hx2, hx3, hpre⟩, hn, hB⟩
      · exact absurd hsp h
      have hple := hpre.length_le
      have hmin : ((pre.length : Int) != min (zs.length : Int) (max 1 many)) = false := by
        rw [bne_eq_false_iff_eq]; rcases hx2 with h | h <;> omega
      have cn := hn.one
      have cwx := (br.below hB br.lt).one
      have cty := (ct.below hB ct.lt).one
      have cmx := (F.b2.below hB F.b2.lt).one
      have lt0 := hB.size
      gi_wp2
      all_goals
        obtain ⟨V1, hV1⟩ : ∃ V1, W.alloc (.cells #[.int .i64 1] 3) = V1 := ⟨_, rfl⟩
        rw [hV1]
        have hB1 : Below V.heap.size V V1 := by rw [← hV1]; exact hB.alloc hB.size _
        have ct1 : Blk V1 W.heap.size 3 #[.int .i64 (1 : Nat)] := by rw [← hV1]; exact Blk.new _ _ _
        have hlD := (Array.getElem?_eq_some_iff.1 hKD).1
        have hD1 : V1.heap[D]? = some (.deferred (some [])) := by rw [← hV1]; exact (Below.heap_alloc W _ D hlD).trans hKD
        have hL1 := hLeft.more hB1 (by have := hW.size; simp at hD; omega) (by simp at hD; omega) hD1
        have hz := fun (z16 z17 z72 z73 z74 z75 z76 z77 z78 z100 z101 z102 z103 z104 z105 z106 z107 z108 z109 z110 z111 z112 z113 z114 z115 z116 z117 z118 z119 : Value) hr => hK 1 [z16, z17, z72, z73, z74, z75, z76, z77, z78, z100, z101, z102, z103, z104, z105, z106, z107, z108, z109, z110, z111, z112, z113, z114, z115, z116, z117, z118, z119] (D :: Ds) V1 (by omega) hr
        simp only [sets, List.setIfInBounds_toArray, List.set_cons_zero, List.set_cons_succ] at hz
        refine hz _ _ _ _ _ _ _ _ _ _ _ _ _ _ _ _ _ _ _ _ _ _ _ _ _ _ _ _ _ ⟨1, W.heap.size, _, _, _, _, _, _, _, _, _, _, _, _, _, _, _, _, _, _, _, _, _, _, _, _, _, _, _, _, rfl, by omega, by omega, ct1, F.next hB1, br.below hB1 br.lt, hL1, below_in hBV hB1⟩

  · gi_wp2_with fail
    have hnb : Blk (V.alloc (.cells #[.int .i64 0] 3)) V.heap.size 3 #[.int .i64 (([] : List Int).length : Int)] := Blk.new _ _ _
    refine wpIn_rangeBox rfl (by omega) (gf := gf) (lb := lb) rfl trivial eg (hg 4 (by omega)) (fun h h' => h.trans h') (fun W l o hl => Keep.putFar W (by simp at hl; omega) o) (below_in (below_in hB70 hBV) (below_one V _)) (fun _ => rfl)
      (fun pre W => (pre <+: zs ∧ True) ∧ Told V.heap.size V pre W)
      (fun c pre W => (c = .ret ∧ ¬ (pre <+: zs)) ∨ (False ∧ Told V.heap.size V pre W))
      ((far_pure _ _).and (told_far _ _ _ (by simp) (by simp)))
      (fun c => told_if _ _ _ (by simp) (by simp) (fun pre => c = .ret ∧ ¬ (pre <+: zs)) (fun pre => False))
      ⟨⟨List.nil_prefix, trivial⟩, hnb, below_one V _⟩
      37 (fun z : Int => #[.int .i64 x, .int .i64 z]) ?a1_1
      ?assign_1 ?body_1 ?done_1 ?stop_1
    case assign_1 =>
      rintro l' pre z W K hsz ⟨hp, hn, hB⟩ hK
      gi_wp2
      have hbx := Blk.new W 37 #[.int .i64 x, .int .i64 z]
      have hsn := hn.lt
      have hSi : Since (V.alloc (.cells #[.int .i64 0] 3)).heap.size W (W.alloc (.cells #[.int .i64 x, .int .i64 z] 37)) := Since.below (below_one W _)
      have hKe : Keep W6.heap.size (w7.heap.size - W6.heap.size) W (W.alloc (.cells #[.int .i64 x, .int .i64 z] 37)) := Keep.alloc (by omega) _
      have hTo : Told V.heap.size V pre (W.alloc (.cells #[.int .i64 x, .int .i64 z] 37)) := ⟨hn.alloc _, hB.alloc hB.size _⟩
      generalize W.alloc (.cells #[.int .i64 x, .int .i64 z] 37) = W' at *
      generalize W.heap.size = Bx at *
      exact hK Bx _ hSi hKe ⟨hp, hTo⟩ hbx
    case body_1 =>
      rintro l' pre z Bx W hsz ⟨⟨hpre, hcnd⟩, hn, hB⟩ hbx hlt
      have hple := hpre.length_le
      have htake := List.prefix_iff_eq_take.1 hpre
      have cn := hn.one
      have fn := hn.frozen 0
      have cwx := (br.below hB br.lt).one
      have cty := (ct.below hB ct.lt).one
      have cmx := (F.b2.below hB F.b2.lt).one
      have crx := (F.b3.below hB F.b3.lt).one
      have frx := (F.b3.below hB F.b3.lt).frozen 0
      have a0 := (F.b1.below hB F.b1.lt).cell 0
      have z0 := hbx.cell 0
      have z1 := hbx.cell 1
      simp only [List.getElem?_toArray, List.getElem?_cons_zero, List.getElem?_cons_succ] at a0 z0 z1
      have hbs := hB.size
      rcases Nat.lt_or_ge pre.length zs.length with hlz | hlz
      · have dp : decide ((zs.length : Int) ≤ (pre.length : Int)) = false := decide_eq_false (by omega)
        by_cases hx : z = (pre.length : Int)
        · have hnext : pre ++ [z] <+: zs := by
            rw [hx, ← HZ.out _ hlz]
            have e := take_next zs hlz
            rw [← htake] at e
            rw [← e]
            exact List.take_prefix _ _
          have HN := Lib.hid hnext
          have hl1 : ((pre ++ [z]).length : Int) = (pre.length : Int) + 1 := by rw [List.length_append]; rfl
          have HL1 := Lib.hid hl1
          have HT : Hid (Told V.heap.size V (pre ++ [z]) (W.setCell ⟨V.heap.size, 0, none⟩ (.int .i64 ((pre.length : Int) + 1)))) := by
            refine ⟨?_, hB.setCell (Nat.le_refl _) _⟩
            rw [hl1]
            exact hn.set_ 0 _
          have ex : ((z : Int) == (pre.length : Int)) = true := by rw [hx]; simp
          clear hx hnext hl1 htake
          gi_wp2
          exact ⟨Since.setCell _ (by simp) _, Keep.setFar _ (by simp; omega) _, ⟨HN.out, trivial⟩, HT.out⟩
        · have HN := Lib.hid (not_prefix zs pre.length z (fun _ => by rw [HZ.out _ hlz]; exact hx) hple)
          have ex : ((z : Int) == (pre.length : Int)) = false := by simpa using hx
          have HTk := Lib.hid htake
          clear hx htake
          gi_wp2
          exact ⟨Since.setCell _ (by simp; omega) _, .inl ⟨rfl, by rw [HTk.out]; exact HN.out⟩⟩
      · have dp : decide ((zs.length : Int) ≤ (pre.length : Int)) = true := decide_eq_true (by omega)
        have HN := Lib.hid (not_prefix zs pre.length z (fun h => by omega) hple)
        have HTk := Lib.hid htake
        clear htake
        gi_wp2
        exact ⟨Since.setCell _ (by simp; omega) _, .inl ⟨rfl, by rw [HTk.out]; exact HN.out⟩⟩
    case done_1 =>
      rintro D ys W hD eys ⟨⟨hpre, hcnd⟩, hn, hB⟩ hKD
      obtain rfl := eys.symm
      have hne : ((zs.length : Int) != (zs.length : Int)) = false := by simp
      have cn := hn.one
      have cwx := (br.below hB br.lt).one
      have cty := (ct.below hB ct.lt).one
      have cmx := (F.b2.below hB F.b2.lt).one
      have lt0 := hB.size
      gi_wp2
      all_goals
        obtain ⟨V1, hV1⟩ : ∃ V1, W.alloc (.cells #[.int .i64 2] 3) = V1 := ⟨_, rfl⟩
        rw [hV1]
        have hB1 : Below V.heap.size V V1 := by rw [← hV1]; exact hB.alloc hB.size _
        have ct1 : Blk V1 W.heap.size 3 #[.int .i64 (2 : Nat)] := by rw [← hV1]; exact Blk.new _ _ _
        have hlD := (Array.getElem?_eq_some_iff.1 hKD).1
        have hD1 : V1.heap[D]? = some (.deferred (some [])) := by rw [← hV1]; exact (Below.heap_alloc W _ D hlD).trans hKD
        have hL1 := hLeft.more hB1 (by have := hW.size; simp at hD; omega) (by simp at hD; omega) hD1
        have hz := fun (z16 z17 z72 z73 z74 z75 z76 z77 z78 z100 z101 z102 z103 z104 z105 z106 z107 z108 z109 z110 z111 z112 z113 z114 z115 z116 z117 z118 z119 : Value) hr => hK 0 [z16, z17, z72, z73, z74, z75, z76, z77, z78, z100, z101, z102, z103, z104, z105, z106, z107, z108, z109, z110, z111, z112, z113, z114, z115, z116, z117, z118, z119] (D :: Ds) V1 (by omega) hr
        simp only [sets, List.setIfInBounds_toArray, List.set_cons_zero, List.set_cons_succ] at hz
        refine hz _ _ _ _ _ _ _ _ _ _ _ _ _ _ _ _ _ _ _ _ _ _ _ _ _ _ _ _ _ ⟨2, W.heap.size, _, _, _, _, _, _, _, _, _, _, _, _, _, _, _, _, _, _, _, _, _, _, _, _, _, _, _, _, rfl, by omega, by omega, ct1, F.next hB1, br.below hB1 br.lt, hL1, below_in hBV hB1⟩
    case stop_1 =>
      rintro D c pre W hD hsp hor hKD
      rcases hor with ⟨rfl, h⟩ | ⟨h, _⟩
      · exact absurd hsp h
      · exact h.elim

  · gi_wp2_with fail
    go_wp2_with (go_at_call 22; refine (works_any _ F.hL).mono ?_; rintro e wf ⟨rfl, hBf⟩; have crx := (F.b3.below hBf F.b3.lt).one; have frx := (F.b3.below hBf F.b3.lt).frozen 0)
    have h3 : Blk (wf.setCell ⟨w.heap.size + 1 + 1 + 1, 0, none⟩ (.bool true)) (w.heap.size + 1 + 1 + 1) 4 #[.bool true] := (F.b3.below hBf F.b3.lt).set_ 0 _
    refine leaves_blks w Ds _ ((hLeft.below hBf).set_ _ _) ((below_in hW hBf).setCell (by simp; omega) _) fun W' hB' hk => ?_
    have cr := (hk _ _ _ h3).one
    exact ⟨.bool true, by simp [results, Tryd.results5, go_sem, cr], rfl, hB'⟩

theorem walk (k p x y many : Int) (w : World) (hL : Laid w) (wk : -9223372036854775808 ≤ k ∧ k ≤ 9223372036854775807) (wp : -9223372036854775808 ≤ p ∧ p ≤ 9223372036854775807) (wx : -9223372036854775808 ≤ x ∧ x ≤ 9223372036854775807) (wy : -9223372036854775808 ≤ y ∧ y ≤ 9223372036854775807) (wm : -9223372036854775808 ≤ many ∧ many ≤ 9223372036854775807) :
    Calls Tryd.prog 5 #[.agg #[.int .i64 k, .int .i64 p], .agg #[.int .i64 x, .int .i64 y], .int .i64 many] w fun e w' => e = .returned (.bool true) ∧ Below w.heap.size w w' := by
  by_cases hR : RightC k p
  · by_cases hc : HasCell k p x y
    · exact main k p x y many w hL wm _ 0 _ 0 (fun W hL => (shapeDiagonal_any k p x y W hL).mono fun _ _ h => tells3_yes hR hc h) (fun W hL => (shapeSlant_any k p x y W hL).mono fun _ _ h => tells3_yes hR hc h) (.inr (.inl ⟨hR, hc, rfl, rfl, rfl, rfl⟩))
    · exact main k p x y many w hL wm 0 4 0 4 (fun W hL => (shapeDiagonal_any k p x y W hL).mono fun _ _ h => ⟨h.2.1 hR hc, h.2.2.2⟩) (fun W hL => (shapeSlant_any k p x y W hL).mono fun _ _ h => ⟨h.2.1 hR hc, h.2.2.2⟩) (.inr (.inr ⟨hR, hc, rfl, rfl, rfl, rfl⟩))
  · exact main k p x y many w hL wm 0 2 0 2 (fun W hL => (shapeDiagonal_any k p x y W hL).mono fun _ _ h => ⟨h.1 hR, h.2.2.2⟩) (fun W hL => (shapeSlant_any k p x y W hL).mono fun _ _ h => ⟨h.1 hR, h.2.2.2⟩) (.inl ⟨hR, rfl, rfl, rfl, rfl⟩)

set_option maxRecDepth 100000 in
theorem lifted (os : Os) (started : os.Started) (H : Type) (enc : TypeId × Value → H) :
    ReturnsInHanded {} Tryd.checked os 5 .any (fun w args => (Rows.shapeLinesSpec.pre enc Tryd.prog Tryd.f5 [] false w args ∧ laidMetH Tryd.prog laidL w) ∧ sizedMet enc Tryd.prog Tryd.f5 (OpenSpec.ofChange Rows.shapeLinesSpec) false w args)
      (Rows.shapeLinesSpec.post enc Tryd.prog Tryd.f5 false true false false) := by
  refine returnsInHanded_of_change_and (C := Tryd.checked) (X := fun w _ => laidMetH Tryd.prog laidL w) (fun _ _ _ hh h => h.of_heap hh) own started (by kernel_rfl) Tryd.func5
    (ChangeSpec.witness_shaped (enc := enc) (C := Tryd.checked) (os := os) (X := fun w _ => laidMetH Tryd.prog laidL w) false (World.doorLaid Tryd.prog 200 os) #[.agg #[.int .i64 0, .int .i64 0], .agg #[.int .i64 0, .int .i64 0], .int .i64 0] 8 rfl (World.shaped_of_RefB (by kernel_rfl) (by kernel_rfl)) (by kernel_rfl) (by kernel_rfl) (by kernel_rfl) (door_met os _)) ?_
  intro W base args ds gs before hval0 hW _ _ hL0 _
  have hL := laid_of hL0
  have hval : ∀ (j : Nat) t v, Tryd.f5.params[j]? = some t → args[j]? = some v → Value.okWide Tryd.prog W .any base t v := hval0
  have hW' := hW
  obtain ⟨p, q, hA0, hV, rfl, hfz, hnd⟩ := hW
  have hA : DataW.TrodAll enc Tryd.prog W 0 (fun _ => true) true Tryd.f5.params.toList args.toList ds p := hA0
  rw [Tryd.params5] at hA hval
  obtain ⟨v0, vs0, d0, ds0, p0, q0, hargs, rfl, rfl, h0, r0⟩ := trodAll_cons hA
  obtain ⟨v1, vs1, d1, ds1, p1, q1, rfl, rfl, rfl, h1, r1⟩ := trodAll_cons r0
  obtain ⟨v2, vs2, d2, ds2, p2, q2, rfl, rfl, rfl, h2, r2⟩ := trodAll_cons r1
  obtain ⟨rfl, rfl, rfl⟩ := trodAll_nil r2
  obtain rfl : args = #[v0, v1, v2] := by cases args; simp_all
  obtain ⟨rfl, rfl⟩ := trodVars_none hV
  have k0 := h0
  have lt0 : ∀ x ∈ p0, x.block < W.heap.size := by obtain ⟨m, hm⟩ := k0; exact DataW.trod_lt m _ _ _ hm
  obtain ⟨x0, y0, rfl, w0⟩ := open_code (hval 0 24 v0 rfl rfl) h0
  have k1 := h1
  have lt1 : ∀ x ∈ p1, x.block < W.heap.size := by obtain ⟨m, hm⟩ := k1; exact DataW.trod_lt m _ _ _ hm
  obtain ⟨x1, y1, rfl, w1⟩ := open_at (hval 1 37 v1 rfl rfl) h1
  obtain ⟨a2, rfl, rfl, rfl, w2⟩ := open_int Tryd.underlying3 (hval 2 3 v2 rfl rfl) h2
  clear hA0 hval0
  simp only [List.append_nil] at hW'
  refine (walk x0 y0 x1 y1 a2 W hL (wf_i64 w0.1) (wf_i64 w0.2) (wf_i64 w1.1) (wf_i64 w1.2) (wf_i64 w2)).mono fun e W' ⟨he, bel⟩ => ?_
  subst he
  exact ⟨_, rfl, _, _, _, [], _, [], hW', trodAll_mk1 (shut_bool Tryd.underlying4 _), (trodAll_cons_mk (Below.trod laidOut (by kernel_rfl) (of_decide_eq_true (by kernel_rfl)) k0 bel lt0) (trodAll_cons_mk (Below.trod laidOut (by kernel_rfl) (of_decide_eq_true (by kernel_rfl)) k1 bel lt1) (trodAll_cons_mk (shut_int Tryd.underlying3 w2) trodAll_mk0))), rfl, bel.frame _, fun h => by cases h⟩

theorem over : Rows.shapeLinesRow.holds Tryd.pinned (OpenSpec.ofChange Rows.shapeLinesSpec) :=
  OpenClaim.holds_of_wide 5 Tryd.f5 rfl rfl rfl rfl rfl rfl rfl ⟨rfl, rfl, rfl, rfl, rfl⟩ rfl rfl rfl rfl rfl (by kernel_rfl) Tryd.func5 (by kernel_rfl)
    (of_decide_eq_true (by kernel_rfl)) (by unfold Func.isWrapper; first | (rw [if_pos (by decide +kernel)]; kernel_rfl) | (rw [if_neg (by decide +kernel)]; exact ⟨rfl, rfl⟩))
    (fun os started H enc _ => lifted os started H enc)

/-- The tied card: the row, and the tie that is given. -/
theorem shapeLines_holds : Rows.ShapeLinesCardSaid :=
  Claim7.holds_tied_plain_at .later [] [.data, .data] true _ false over (fun _ h => by cases h) (by kernel_rfl) (fun _ h => by cases h) shapeLines_row_tie rfl ⟨rfl, rfl⟩ (by kernel_rfl) rfl
    (fun f fn hf hfn => by
      obtain rfl : f = 5 := Option.some.inj ((show Tryd.prog.funcNamed "palisade/palisadelaw04.ShapeLines" = some 5 by kernel_rfl).symm.trans hf) |>.symm
      obtain rfl : fn = Tryd.f5 := (Option.some.inj (Tryd.func5.symm.trans hfn)).symm
      exact ⟨by kernel_rfl, fun j t ht => by
        rw [Tryd.params5] at ht
        have hm : t ∈ [24, 37, 3] := by simpa using Array.mem_of_getElem? ht
        have hall : ([24, 37, 3].all fun u => !Tryd.prog.wantsStandIn u) = true := by kernel_rfl
        exact (show Tryd.prog.wantsStandIn t = false by simpa using List.all_eq_true.1 hall t hm)⟩)
    (by kernel_rfl)
end Go.Proofs.YthhgalhabdkikaaDoor.shapeLines
