/- The law ShapeHolds answers true for every input and leaves its arguments as they were. -/
import Derived.Test.YthhgalhabdkikaaDoorSLawKit
import Derived.Test.YthhgalhabdkikaaDoorCards
import Derived.Test.YthhgalhabdkikaaDoorTie
import Derived.SevenTiedAt
import Derived.Test.YthhgalhabdkikaaDoorSwO
import Derived.Test.YthhgalhabdkikaaDoorSHoldsMath
namespace Go.Proofs.YthhgalhabdkikaaDoor.shapeHolds
open Go.ChangeShapes Go.WideShapes Go.ChangeAt Go.RowKit Go.Shelf
set_option linter.unusedVariables false
set_option linter.unusedSimpArgs false
attribute [local go_sem] Oper.semAt_some

/-- What stands while the law goes: the answer, the code. -/
structure St (V : World) (R g0 : Nat) (k p : Int) : Prop where
  bR : Blk V R 4 #[.bool false]
  b0 : Blk V g0 24 #[.int .i64 k, .int .i64 p]
  hL : Laid V
theorem allC_right : ∀ j ∈ List.range 18, (1 ≤ (allC[j]?.getD (0, 0)).1 ∧ (allC[j]?.getD (0, 0)).1 ≤ 3) ∧ (allC[j]?.getD (0, 0)).2 ∈ prm := by decide +kernel
theorem St.next {V V' : World} {R g0 : Nat} {k p : Int} (h : St V R g0 k p) (hB : Below V.heap.size V V') : St V' R g0 k p := ⟨h.bR.below hB h.bR.lt, h.b0.below hB h.b0.lt, h.hL.next hB⟩
theorem St.undrew {V V' : World} {R g0 : Nat} {k p : Int} (h : St V R g0 k p) (hB : Below V.drew.heap.size V.drew V') : St V' R g0 k p := h.next (below_undrew hB)
theorem St.grown {V V' : World} {R g0 : Nat} {k p : Int} {row : Option Nat} (h : St V R g0 k p) (hg : V.grownBy V' row) (h1 : ∀ r, row = some r → r ≠ R ∧ r ≠ g0 ∧ 1 < r) : St V' R g0 k p := by
  refine ⟨h.bR.grown hg (fun e => (h1 R e.symm).1 rfl), h.b0.grown hg (fun e => (h1 g0 e.symm).2.1 rfl), h.hL.1.grown hg (fun e => ?_), h.hL.2.grown hg (fun e => ?_)⟩
  · have := (h1 _ e.symm).2.2; omega
  · have := (h1 _ e.symm).2.2; omega

theorem Left.grown {base b : Nat} {W W' : World} {Ds : List Nat} {pre : List Int} (h : Left base W Ds) (hg : W.grownBy W' (some b)) (hs : Seen W b pre) : Left base W' Ds := by
  refine ⟨h.1, fun D hD => ⟨(h.2 D hD).1, (hg.block D (h.lt hD) (fun e => ?_)).trans (h.2 D hD).2⟩⟩
  have e : D = b := by injection e
  subst e
  obtain ⟨es, ck, hh, _⟩ := hs
  have h2 := (h.2 _ hD).2
  rw [h2] at hh
  cases hh
/-- What a column's round keeps: two maps, their boxes, what is left over. -/
structure Turn (V : World) (gq ga gb : Nat) (T p col : Int) (pre : List Int) (W : World) : Prop where
  s1 : Seen W gq (pre.map (dgI p col))
  s2 : Seen W (gq + 1) (pre.map (slI p col))
  b1 : Blk W (gq + 1 + 1) 53 #[.map (some gq)]
  b2 : Blk W (gq + 1 + 1 + 1) 53 #[.map (some (gq + 1))]
  ba : Blk W ga 3 #[.int .i64 (downTo (dgI p col) T pre)]
  bb : Blk W gb 3 #[.int .i64 (downTo (slI p col) T pre)]
  hB : Below V.heap.size V W
theorem Turn.next {V W W' : World} {gq ga gb : Nat} {T p col : Int} {pre : List Int} (h : Turn V gq ga gb T p col pre W) (hB : Below W.heap.size W W') : Turn V gq ga gb T p col pre W' :=
  ⟨h.s1.below hB h.s1.lt, h.s2.below hB h.s2.lt, h.b1.below hB h.b1.lt, h.b2.below hB h.b2.lt, h.ba.below hB h.ba.lt, h.bb.below hB h.bb.lt, below_in h.hB hB⟩
theorem Turn.far {V : World} {gq ga gb B : Nat} {T p col : Int} (hq : gq + 1 + 1 + 1 < B) (ha : ga < B) (hb : gb < B) (hV : V.heap.size ≤ B) : Far B (Turn V gq ga gb T p col) := fun pre X Y row h hg hr => by
  have hne : ∀ g, g < B → some g ≠ row := fun g hg e => by have := hr g e.symm; omega
  exact ⟨h.s1.kept hg (hne _ (by omega)), h.s2.kept hg (hne _ (by omega)), h.b1.grown hg (hne _ (by omega)), h.b2.grown hg (hne _ (by omega)), h.ba.grown hg (hne _ ha), h.bb.grown hg (hne _ hb),
    far_below (Nat.le_refl _) hV () X Y row h.hB hg hr⟩
/-- One more row: both maps, both boxes. -/
theorem Turn.more {V W W1 W2 : World} {gq ga gb : Nat} {T p col : Int} {pre : List Int} {z : Int} (h : Turn V gq ga gb T p col pre W) (hV1 : V.heap.size ≤ ga) (hV2 : V.heap.size ≤ gb) (hab : ga ≠ gb) (haq : ga < gq) (hbq : gb < gq)
    (s1 : Seen W1 gq (pre.map (dgI p col) ++ [dgI p col z])) (g1 : W.grownBy W1 (some gq)) (s2 : Seen W2 (gq + 1) (pre.map (slI p col) ++ [slI p col z])) (g2 : W1.grownBy W2 (some (gq + 1))) :
    Turn V gq ga gb T p col (pre ++ [z]) ((W2.drew.setCell ⟨ga, 0, none⟩ (.int .i64 (downTo (dgI p col) T pre - dgI p col z))).setCell ⟨gb, 0, none⟩ (.int .i64 (downTo (slI p col) T pre - slI p col z))) := by
  have n1 : ∀ g, g ≠ gq → some g ≠ some gq := fun g h e => h (by injection e)
  have n2 : ∀ g, g ≠ gq + 1 → some g ≠ some (gq + 1) := fun g h e => h (by injection e)
  have s1t : Seen W2 gq (pre.map (dgI p col) ++ [dgI p col z]) := s1.kept g2 (n2 _ (by omega))
  have b1t : Blk W2 (gq + 1 + 1) 53 #[.map (some gq)] := (h.b1.grown g1 (n1 _ (by omega))).grown g2 (n2 _ (by omega))
  have b2t : Blk W2 (gq + 1 + 1 + 1) 53 #[.map (some (gq + 1))] := (h.b2.grown g1 (n1 _ (by omega))).grown g2 (n2 _ (by omega))
  have bat : Blk W2 ga 3 #[.int .i64 (downTo (dgI p col) T pre)] := (h.ba.grown g1 (n1 _ (by omega))).grown g2 (n2 _ (by omega))
  have bbt : Blk W2 gb 3 #[.int .i64 (downTo (slI p col) T pre)] := (h.bb.grown g1 (n1 _ (by omega))).grown g2 (n2 _ (by omega))
  have s1' : Seen W2.drew gq (pre.map (dgI p col) ++ [dgI p col z]) := s1t
  have s2' : Seen W2.drew (gq + 1) (pre.map (slI p col) ++ [slI p col z]) := s2
  have b1' : Blk W2.drew (gq + 1 + 1) 53 #[.map (some gq)] := b1t
  have b2' : Blk W2.drew (gq + 1 + 1 + 1) 53 #[.map (some (gq + 1))] := b2t
  have ba' : Blk W2.drew ga 3 #[.int .i64 (downTo (dgI p col) T pre)] := bat
  have bb' : Blk W2.drew gb 3 #[.int .i64 (downTo (slI p col) T pre)] := bbt
  have hB' : Below V.heap.size V W2.drew := ((h.hB.grown g1 h.hB.size (fun k e => by injection e with e; omega)).grown g2 (Nat.le_trans h.hB.size g1.size) (fun k e => by injection e with e; omega)).drew
  refine ⟨?_, ?_, ?_, ?_, ?_, ?_, (hB'.setCell hV1 _).setCell hV2 _⟩
  · rw [List.map_append]; exact (s1'.set_ (p := ⟨ga, 0, none⟩) (by simp; omega) _).set_ (p := ⟨gb, 0, none⟩) (by simp; omega) _
  · rw [List.map_append]; exact (s2'.set_ (p := ⟨ga, 0, none⟩) (by simp; omega) _).set_ (p := ⟨gb, 0, none⟩) (by simp; omega) _
  · exact (b1'.far (p := ⟨ga, 0, none⟩) (by simp; omega) _).far (p := ⟨gb, 0, none⟩) (by simp; omega) _
  · exact (b2'.far (p := ⟨ga, 0, none⟩) (by simp; omega) _).far (p := ⟨gb, 0, none⟩) (by simp; omega) _
  · rw [downTo_next]; exact ((ba'.set_ 0 _).far (p := ⟨gb, 0, none⟩) hab _)
  · rw [downTo_next]; exact (bb'.far (p := ⟨ga, 0, none⟩) (fun e => hab e.symm) _).set_ 0 _

set_option maxRecDepth 100000 in
set_option maxHeartbeats 8000000 in
theorem walk (j0 fr : Int) (w : World) (hL : Laid w) (wj : -9223372036854775808 ≤ j0 ∧ j0 ≤ 9223372036854775807) (wfr : -9223372036854775808 ≤ fr ∧ fr ≤ 9223372036854775807) :
    Calls Tryd.prog 6 #[.int .i64 j0, .int .i64 fr] w fun e w' => e = .returned (.bool true) ∧ Below w.heap.size w w' := by
  have hmm := @run_makeMap Tryd.prog
  have hBz := below_one w (.cells #[.bool false] 4)
  have HA := Lib.hid (shapeAll_any _ (hL.next hBz))
  refine (callsIn_wide (n := 5)).1 ?_
  refine callsIn_of_wp_marks Tryd.func6 rfl trivial ?_ rfl
  simp only [Tryd.ntmps6, List.size_toArray, List.length_cons, List.length_nil, Nat.reduceAdd, Nat.reduceSub, Array.replicate_succ, Array.replicate_zero, List.push_toArray, List.append_toArray, List.nil_append, List.cons_append]
  refine wpIn_wide.2 ?_
  go_wp2_with fail
  refine HA.out.mono ?_
  rintro e wA ⟨v1, rfl, ho1, hB⟩
  obtain ⟨g1, cap1, rfl, ha1⟩ := ho1.all
  have bR := (Blk.new w 4 #[.bool false]).below hB (by simp)
  replace hL := (hL.next hBz).next hB
  replace hB := below_in hBz hB
  clear ho1 HA hBz
  by_cases h1 : j0 < 0
  · have d1 : decide (j0 < 0) = true := decide_eq_true h1
    go_wp2_with (go_at_call 22; refine (works_any _ hL).mono ?_; rintro e wf ⟨rfl, hBf⟩; have crx := (bR.below hBf bR.lt).one; have frx := (bR.below hBf bR.lt).frozen 0)
    have h3 : Blk (wf.setCell ⟨w.heap.size, 0, none⟩ (.bool true)) w.heap.size 4 #[.bool true] := (bR.below hBf bR.lt).set_ 0 _
    have cr := h3.one
    exact ⟨.bool true, by simp [results, Tryd.results6, go_sem, cr], rfl, (below_in hB hBf).setCell (Nat.le_refl _) _⟩
  by_cases h2 : 18 ≤ j0
  · have d1 : decide (j0 < 0) = false := decide_eq_false h1
    have d2 : decide (18 ≤ j0) = true := decide_eq_true h2
    go_wp2_with (go_at_call 22; refine (works_any _ hL).mono ?_; rintro e wf ⟨rfl, hBf⟩; have crx := (bR.below hBf bR.lt).one; have frx := (bR.below hBf bR.lt).frozen 0)
    have h3 : Blk (wf.setCell ⟨w.heap.size, 0, none⟩ (.bool true)) w.heap.size 4 #[.bool true] := (bR.below hBf bR.lt).set_ 0 _
    have cr := h3.one
    exact ⟨.bool true, by simp [results, Tryd.results6, go_sem, cr], rfl, (below_in hB hBf).setCell (Nat.le_refl _) _⟩
  have d1 : decide (j0 < 0) = false := decide_eq_false h1
  have d2 : decide (18 ≤ j0) = false := decide_eq_false h2
  obtain ⟨j, rfl⟩ : ∃ j : Nat, j0 = (j : Int) := ⟨j0.toNat, by omega⟩
  have hj : j < 18 := by omega
  have i1 : (0 : Int) ≤ (j : Int) := by omega
  have i2 : (j : Int) < 18 := by omega
  obtain ⟨x0, x1⟩ := ha1.2 j hj
  have hR : RightC (allC[j]?.getD (0, 0)).1 (allC[j]?.getD (0, 0)).2 := allC_right j (List.mem_range.2 hj)
  generalize (allC[j]?.getD (0, 0)).1 = k at *
  generalize (allC[j]?.getD (0, 0)).2 = p at *
  clear ha1 h1 h2 hj
  obtain ⟨p1, p2, s1, s2, m1, m2⟩ := hR.und
  have HDa := Lib.hid (fun W hL => (shapeData_any k p W hL).mono fun _ _ h => tells_yes hR h)
  have HRw := Lib.hid (fun W hL => (shapeRows_any k p W hL).mono fun _ _ h => tells_yes hR h)
  have HCo := Lib.hid (fun W hL => (shapeCols_any k p W hL).mono fun _ _ h => tells_yes hR h)
  have HPl := Lib.hid (fun n (hn : HasNum k p n) W hL => (shapePlace_any k p n W hL).mono fun _ _ h => tells3_yes hR hn h)
  have HNu := Lib.hid (fun x y (hn : HasData k p x y) W hL => (shapeNumber_any k p x y W hL).mono fun _ _ h => tells3_yes hR hn h)
  have HCe := Lib.hid (fun x W hL => shapeCells_any k p x W hL)
  have HDg := Lib.hid (fun x y W hL => shapeDiagonal_any k p x y W hL)
  have HSl := Lib.hid (fun x y W hL => shapeSlant_any k p x y W hL)
  have HR := Lib.hid hR
  unfold HasNum at HPl
  unfold HasData at HNu
  clear hR
  have q1 : 2 ≤ p - shortN k := by omega
  have q2 : p - shortN k ≤ 17 := by omega
  have q3 : p - shortN k + madeN k ≤ 20 := by omega
  have q4 : p - shortN k + madeN k - p ≤ 3 := by omega
  have q5 : 0 ≤ p - shortN k + madeN k - p := by omega
  obtain ⟨d, hd⟩ : ∃ d, p - shortN k = d := ⟨_, rfl⟩
  obtain ⟨mm, hm⟩ : ∃ m, madeN k = m := ⟨_, rfl⟩
  rw [hd] at HDa HCo HPl HNu q1 q2 q3 q4 q5
  rw [hm] at HCo q3 q4 q5
  have HD := Lib.hid hd
  have HM := Lib.hid hm
  clear hd hm s1 s2 m1 m2
  have t1 : ((p - 1 : Int) != p - 1) = false := by simp
  have hBa := below_one wA (.cells #[.int .i64 k, .int .i64 p] 24)
  have S : St (wA.alloc (.cells #[.int .i64 k, .int .i64 p] 24)) w.heap.size wA.heap.size k p := ⟨bR.alloc _, Blk.new wA _ _, hL.next hBa⟩
  replace hB := below_in hB hBa
  have hRg : w.heap.size < wA.heap.size := bR.lt
  clear hBa bR hL
  have c0 := (St.b0 S).cell 0
  have c1 := (St.b0 S).cell 1
  simp only [List.getElem?_toArray, List.getElem?_cons_zero, List.getElem?_cons_succ] at c0 c1
  go_wp2_with (first
    | (go_at_call 14; refine (HDa.out _ S.hL).mono ?_; rintro e w1 ⟨rfl, hB1⟩; (first | replace S := S.next hB1 | replace S := S.undrew hB1); (first | replace hB := below_in hB hB1 | replace hB := below_in hB.drew hB1); have c0 := (St.b0 S).cell 0; have c1 := (St.b0 S).cell 1; simp only [List.getElem?_toArray, List.getElem?_cons_zero, List.getElem?_cons_succ] at c0 c1)
    | (go_at_call 13; refine (HRw.out _ S.hL).mono ?_; rintro e w1 ⟨rfl, hB1⟩; (first | replace S := S.next hB1 | replace S := S.undrew hB1); (first | replace hB := below_in hB hB1 | replace hB := below_in hB.drew hB1); have c0 := (St.b0 S).cell 0; have c1 := (St.b0 S).cell 1; simp only [List.getElem?_toArray, List.getElem?_cons_zero, List.getElem?_cons_succ] at c0 c1)
    | (go_at_call 15; refine (HCo.out _ S.hL).mono ?_; rintro e w1 ⟨rfl, hB1⟩; (first | replace S := S.next hB1 | replace S := S.undrew hB1); (first | replace hB := below_in hB hB1 | replace hB := below_in hB.drew hB1); have c0 := (St.b0 S).cell 0; have c1 := (St.b0 S).cell 1; simp only [List.getElem?_toArray, List.getElem?_cons_zero, List.getElem?_cons_succ] at c0 c1)
    | (go_at_call 19; refine (num_any _ _).mono ?_; rintro e w' ⟨rfl, rfl⟩))
  have hm1 : 0 ≤ d * (p - 1) := Int.mul_nonneg (by omega) (by omega)
  have hm2 : d * (p - 1) ≤ 1000 := by have := Int.mul_le_mul (show d ≤ 17 by omega) (show p - 1 ≤ 17 by omega) (by omega) (by omega); omega
  obtain ⟨z, HZ, hz2, hz3, hz4⟩ : ∃ z, Hid (z = d * (p - 1)) ∧ wrap64 (d * (p - 1)) = z ∧ 0 ≤ z ∧ z ≤ 1000 := ⟨d * (p - 1), Lib.hid rfl, by unfold wrap64; omega, hm1, hm2⟩
  clear hm1 hm2 x0 x1
  go_loopw [13] (fun i wr => ∃ n : Nat, (n : Int) ≤ z ∧ i = .int .i64 n ∧ St wr w.heap.size wA.heap.size k p ∧ Below w.heap.size w wr) (fun i _ => z.toNat - (intOf i).toNat)
  case atStart => exact ⟨0, by omega, rfl, S, hB⟩
  case round =>
    clear S hB c0 c1
    obtain ⟨n, hn, rfl, S, hB⟩ := hrel
    have c0 := (St.b0 S).cell 0
    have c1 := (St.b0 S).cell 1
    simp only [List.getElem?_toArray, List.getElem?_cons_zero, List.getElem?_cons_succ] at c0 c1
    by_cases hlt : (n : Int) < z
    · have hdec : decide ((n : Int) < z) = true := by simpa using hlt
      have hab : ∃ a b : Int, Hid ((n : Int) % d = a) ∧ Hid ((n : Int) / d = b) ∧ (0 ≤ a ∧ a < d) ∧ (0 ≤ b ∧ b < p - 1) ∧ Hid (b * d + a = (n : Int)) := by
        refine ⟨_, _, Lib.hid rfl, Lib.hid rfl, ⟨Int.emod_nonneg _ (by omega), Int.emod_lt_of_pos _ (by omega)⟩, ⟨Int.ediv_nonneg (by omega) (by omega), Int.ediv_lt_of_lt_mul (by omega) ?_⟩, ?_⟩
        · rw [Int.mul_comm, ← HZ.out]; exact hlt
        · unfold Hid; rw [Int.mul_comm]; exact Int.mul_ediv_add_emod _ _
      obtain ⟨a, b, Ha, Hb, hal, hbl, Hab⟩ := hab
      have HP := HPl.out (n : Int) ⟨by omega, by rw [← HZ.out]; exact hlt⟩
      rw [Ha.out, Hb.out] at HP
      replace HP := Lib.hid HP
      have HN := HNu.out a b ⟨hal, hbl⟩
      rw [Hab.out] at HN
      replace HN := Lib.hid HN
      clear Ha Hb Hab hal hbl
      go_wp2_with fail
      refine (HP.out _ S.hL).mono ?_
      rintro e wp ⟨rfl, hB1⟩
      replace S := S.next hB1
      replace hB := below_in hB hB1
      have bA := Blk.new wp 37 #[.int .i64 a, .int .i64 b]
      have hB2 := below_one wp (.cells #[.int .i64 a, .int .i64 b] 37)
      replace S := S.next hB2
      replace hB := below_in hB hB2
      have a0 := bA.cell 0
      have a1 := bA.cell 1
      simp only [List.getElem?_toArray, List.getElem?_cons_zero, List.getElem?_cons_succ] at a0 a1
      clear hB1 hB2 c0 c1
      have c0 := (St.b0 S).cell 0
      have c1 := (St.b0 S).cell 1
      simp only [List.getElem?_toArray, List.getElem?_cons_zero, List.getElem?_cons_succ] at c0 c1
      go_wp2_with fail
      refine (HN.out _ S.hL).mono ?_
      rintro e wq ⟨rfl, hB1⟩
      replace S := S.next hB1
      replace hB := below_in hB hB1
      clear hB1 c0 c1 a0 a1
      go_wp2_with (go_at_call 19; refine (num_any _ _).mono ?_; rintro e w' ⟨rfl, rfl⟩)
      go_roundw
      case rel => exact ⟨n + 1, by omega, by go_num, S, hB⟩
      case measure => simp [intOf]; omega
    · obtain rfl : (n : Int) = z := by omega
      have hdec : decide ((n : Int) < (n : Int)) = false := by simp
      clear hlt hn HPl HNu HDa HRw HCo
      by_cases h1 : fr < 0
      · have e1 : decide (fr < 0) = true := decide_eq_true h1
        go_wp2_with (go_at_call 22; refine (works_any _ S.hL).mono ?_; rintro e wf ⟨rfl, hBf⟩; have crx := (S.bR.below hBf S.bR.lt).one; have frx := (S.bR.below hBf S.bR.lt).frozen 0)
        have h3 : Blk (wf.setCell ⟨w.heap.size, 0, none⟩ (.bool true)) w.heap.size 4 #[.bool true] := (S.bR.below hBf S.bR.lt).set_ 0 _
        have cr := h3.one
        exact ⟨.bool true, by simp [results, Tryd.results6, go_sem, cr], rfl, (below_in hB hBf).setCell (Nat.le_refl _) _⟩
      by_cases h2 : d + mm - p < fr
      · have e1 : decide (fr < 0) = false := decide_eq_false h1
        have e2 : decide (d + mm - p < fr) = true := decide_eq_true h2
        go_wp2_with (go_at_call 22; refine (works_any _ S.hL).mono ?_; rintro e wf ⟨rfl, hBf⟩; have crx := (S.bR.below hBf S.bR.lt).one; have frx := (S.bR.below hBf S.bR.lt).frozen 0)
        have h3 : Blk (wf.setCell ⟨w.heap.size, 0, none⟩ (.bool true)) w.heap.size 4 #[.bool true] := (S.bR.below hBf S.bR.lt).set_ 0 _
        have cr := h3.one
        exact ⟨.bool true, by simp [results, Tryd.results6, go_sem, cr], rfl, (below_in hB hBf).setCell (Nat.le_refl _) _⟩
      have e1 : decide (fr < 0) = false := decide_eq_false h1
      have e2 : decide (d + mm - p < fr) = false := decide_eq_false h2
      go_wp2_with fail
      obtain ⟨c, rfl⟩ : ∃ c : Nat, fr = (c : Int) := ⟨fr.toNat, by omega⟩
      have hc8 : c < 8 := by omega
      obtain ⟨P, hP⟩ : ∃ P : Nat, p = (P : Int) := ⟨p.toNat, by omega⟩
      have HPp := Lib.hid hP
      clear hP
      obtain ⟨V0, hV0⟩ : ∃ V0, (wr.alloc (.map #[] 0)).alloc (.map #[] 0) = V0 := ⟨_, rfl⟩
      have hB70 : Below wr.heap.size wr V0 := by rw [← hV0]; exact below_two wr _ _
      have S0 := S.next hB70
      have hW0 := below_in hB hB70
      have hl0 : Seen V0 wr.heap.size (lacksD p c 0) := by rw [← hV0]; exact (Seen.made wr).alloc _
      have hs0 : Seen V0 (wr.heap.size + 1) (lacksS p c 0) := by rw [← hV0]; have := Seen.made (wr.alloc (.map #[] 0)); rwa [World.size_alloc] at this
      obtain ⟨gl, hgl⟩ : ∃ g, wr.heap.size = g := ⟨_, rfl⟩
      have hgA : wA.heap.size < gl := by rw [← hgl]; exact S.b0.lt
      have hgV : gl + 1 < V0.heap.size := by rw [← hgl, ← hV0]; simp
      rw [hgl] at hl0 hs0
      rw [hV0, hgl]
      have HCol := Lib.hid (show ∀ y : Int, (c : Int) ≤ y → y < c + p → HasCol k p y from fun y y1 y2 => ⟨by omega, by rw [HD.out, HM.out]; omega⟩)
      clear hV0 hB70 S hB c0 c1 hz2 hz3 hz4 e1 e2 h1 h2 HD HM
      refine (wpIn_wide (n := 5)).1 ?_
      refine loop_left [20, 21, 22, 23, 24, 131, 132, 133, 134, 135, 136, 137, 138, 139, 140, 141, 142, 143, 144, 145, 146, 147, 148, 149, 150, 151, 152, 153, 154, 155, 156, 157, 199, 200, 201, 202, 203, 204, 205, 206, 207, 208, 209, 210, 211, 212, 213, 214, 215, 216, 217, 218, 219, 220, 221, 222, 223, 224, 225, 226, 227, 228, 229, 230, 231, 232, 233, 234, 235, 236, 237, 238] (fun m vs Ds V => ∃ (i : Nat) (y21 y22 y23 y24 y131 y132 y133 y134 y135 y136 y137 y138 y139 y140 y141 y142 y143 y144 y145 y146 y147 y148 y149 y150 y151 y152 y153 y154 y155 y156 y157 y199 y200 y201 y202 y203 y204 y205 y206 y207 y208 y209 y210 y211 y212 y213 y214 y215 y216 y217 y218 y219 y220 y221 y222 y223 y224 y225 y226 y227 y228 y229 y230 y231 y232 y233 y234 y235 y236 y237 y238 : Value), vs = [.int .i64 ((c : Int) + (i : Int)), y21, y22, y23, y24, y131, y132, y133, y134, y135, y136, y137, y138, y139, y140, y141, y142, y143, y144, y145, y146, y147, y148, y149, y150, y151, y152, y153, y154, y155, y156, y157, y199, y200, y201, y202, y203, y204, y205, y206, y207, y208, y209, y210, y211, y212, y213, y214, y215, y216, y217, y218, y219, y220, y221, y222, y223, y224, y225, y226, y227, y228, y229, y230, y231, y232, y233, y234, y235, y236, y237, y238] ∧ i + m = P ∧ St V w.heap.size wA.heap.size k p ∧ Seen V gl (lacksD p c i) ∧ Seen V (gl + 1) (lacksS p c i) ∧ Left w.heap.size V Ds ∧ Below gl V0 V) P
        [.int .i64 (c : Int), undef, undef, undef, undef, undef, undef, undef, undef, undef, undef, undef, undef, undef, undef, undef, undef, undef, undef, undef, undef, undef, undef, undef, undef, undef, undef, undef, undef, undef, undef, undef, undef, undef, undef, undef, undef, undef, undef, undef, undef, undef, undef, undef, undef, undef, undef, undef, undef, undef, undef, undef, undef, undef, undef, undef, undef, undef, undef, undef, undef, undef, undef, undef, undef, undef, undef, undef, undef, undef, undef, undef] (by kernel_rfl) ⟨0, undef, undef, undef, undef, undef, undef, undef, undef, undef, undef, undef, undef, undef, undef, undef, undef, undef, undef, undef, undef, undef, undef, undef, undef, undef, undef, undef, undef, undef, undef, undef, undef, undef, undef, undef, undef, undef, undef, undef, undef, undef, undef, undef, undef, undef, undef, undef, undef, undef, undef, undef, undef, undef, undef, undef, undef, undef, undef, undef, undef, undef, undef, undef, undef, undef, undef, undef, undef, undef, undef, undef, by kernel_rfl, by omega, S0, hl0, hs0, Left.nil _ _, Below.refl _ _⟩ ?_
      clear S0 hl0 hs0
      rintro m vs Ds V ⟨i, y21, y22, y23, y24, y131, y132, y133, y134, y135, y136, y137, y138, y139, y140, y141, y142, y143, y144, y145, y146, y147, y148, y149, y150, y151, y152, y153, y154, y155, y156, y157, y199, y200, y201, y202, y203, y204, y205, y206, y207, y208, y209, y210, y211, y212, y213, y214, y215, y216, y217, y218, y219, y220, y221, y222, y223, y224, y225, y226, y227, y228, y229, y230, y231, y232, y233, y234, y235, y236, y237, y238, rfl, him, S, hsl, hss, hLeft, hBV⟩ K hK
      simp only [sets, List.setIfInBounds_toArray, List.set_cons_zero, List.set_cons_succ]
      have hW := hW0.trans (hBV.mono (by omega))
      have c0 := (St.b0 S).cell 0
      have c1 := (St.b0 S).cell 1
      simp only [List.getElem?_toArray, List.getElem?_cons_zero, List.getElem?_cons_succ] at c0 c1
      by_cases hlt : i < P
      · have hdec : decide ((i : Int) < p) = true := by have := HPp.out; simp; omega
        refine wpIn_wide.2 ?_
        go_upto_region 23 with fail
        obtain ⟨u1, u2, u3, u4, u5⟩ := holds_tot p HR.out.2
        obtain ⟨M, hMw, hM0, hM1, HMp⟩ : ∃ M, wrap64 (p * (p - 1)) = M ∧ 0 ≤ M ∧ M ≤ 1000 ∧ Hid (M = p * (p - 1)) := ⟨p * (p - 1), by unfold wrap64; omega, u1, u2, Lib.hid rfl⟩
        have HQ : Hid (IntKind.i64.wrap ((IntKind.i64.wrap (p * IntKind.i64.wrap (p - 1))).tdiv 2) = M / 2) := by
          have e1 : IntKind.i64.wrap (p - 1) = p - 1 := by rw [IntKind.wrap_i64]; omega
          have e2 : IntKind.i64.wrap (p * (p - 1)) = M := by rw [IntKind.wrap_i64]; have := HMp.out; omega
          show _ = _
          rw [e1, e2, Int.tdiv_eq_ediv_of_nonneg hM0, IntKind.wrap_i64]; omega
        clear u1 u2 u3 u4 u5
        have hne0 : V.heap.size ≠ wA.heap.size := by have := S.b0.lt; omega
        have hne1 : V.heap.size + 1 ≠ wA.heap.size := by have := S.b0.lt; omega
        go_cut [21, 22] from 139 to 152 (fun s21 s22 wx => ∃ ga gb : Nat, s21 = .pointer (some ⟨ga, 0, none⟩) ∧ s22 = .pointer (some ⟨gb, 0, none⟩) ∧ ga ≠ gb ∧ V.heap.size ≤ ga ∧ V.heap.size ≤ gb ∧ Blk wx ga 3 #[.int .i64 (M / 2)] ∧ Blk wx gb 3 #[.int .i64 (M / 2)] ∧ Below V.heap.size V wx)
        case first =>
          go_region_held3 (fun W => W.cell? ⟨wA.heap.size, 1, none⟩ = some (.int .i64 p)) (go_keep) (fail)
          all_goals go_wp2
          all_goals go_meet
          all_goals simp only [HQ.out]
          all_goals first
            | exact ⟨V.heap.size, V.heap.size + 1, rfl, rfl, by omega, by omega, by omega, (Blk.new V _ _).alloc _, Blk.second V _ _ _, (below_two V _ _).drew⟩
            | exact ⟨V.heap.size + 1, V.heap.size, rfl, rfl, by omega, by omega, by omega, Blk.second V _ _ _, (Blk.new V _ _).alloc _, (below_two V _ _).drew⟩
        case rest =>
          obtain ⟨ga, gb, rfl, rfl, hab, hga, hgb, bga, bgb, hBx⟩ := hcut
          have SV := S
          replace S := S.next hBx
          clear c0 c1 hMw hne0 hne1 HQ
          have c0 := (St.b0 S).cell 0
          have c1 := (St.b0 S).cell 1
          simp only [List.getElem?_toArray, List.getElem?_cons_zero, List.getElem?_cons_succ] at c0 c1
          go_upto_region 25 with fail
          obtain ⟨W6, hW6⟩ : ∃ W6, (((wc.alloc (.map #[] 0)).alloc (.map #[] 0)).alloc (.cells #[.map (some wc.heap.size)] 53)).alloc (.cells #[.map (some (wc.heap.size + 1))] 53) = W6 := ⟨_, rfl⟩
          have hB6 : Below wc.heap.size wc W6 := by rw [← hW6]; exact ((below_two wc _ _).alloc (by simp; omega) _).alloc (by simp; omega) _
          have s61 : W6.heap.size = wc.heap.size + 4 := by rw [← hW6]; simp
          have hT6 : Turn V wc.heap.size ga gb (M / 2) p ((c : Int) + (i : Int)) [] W6 := by
            refine ⟨?_, ?_, ?_, ?_, bga.below hB6 bga.lt, bgb.below hB6 bgb.lt, below_in hBx hB6⟩
            · rw [← hW6]; exact (((Seen.made wc).alloc _).alloc _).alloc _
            · rw [← hW6]
              have := ((Seen.made (wc.alloc (.map #[] 0))).alloc (.cells #[.map (some wc.heap.size)] 53)).alloc (.cells #[.map (some (wc.heap.size + 1))] 53)
              rwa [World.size_alloc] at this
            · rw [← hW6]
              have := (Blk.new ((wc.alloc (.map #[] 0)).alloc (.map #[] 0)) 53 #[.map (some wc.heap.size)]).alloc (.cells #[.map (some (wc.heap.size + 1))] 53)
              rwa [World.size_alloc, World.size_alloc] at this
            · rw [← hW6]
              have := Blk.new (((wc.alloc (.map #[] 0)).alloc (.map #[] 0)).alloc (.cells #[.map (some wc.heap.size)] 53)) 53 #[.map (some (wc.heap.size + 1))]
              rwa [World.size_alloc, World.size_alloc, World.size_alloc] at this
          have haq := bga.lt
          have hbq := bgb.lt
          rw [hW6]
          clear hW6 c0 c1
          replace S := S.next hB6
          generalize hgq : wc.heap.size = gq at *
          have c0 := (St.b0 S).cell 0
          have c1 := (St.b0 S).cell 1
          simp only [List.getElem?_toArray, List.getElem?_cons_zero, List.getElem?_cons_succ] at c0 c1
          go_wp2_with fail
          refine (HCe.out _ _ S.hL).mono ?_
          rintro e w7 ⟨v, rfl, ⟨zs, hcol, gf, lb, rfl, eg, eq, hg⟩, hB7⟩
          have HZ : Hid (zs = rowsL p) := hcol.elim (fun h => h.2.2) (fun h => absurd ⟨HR.out, HCol.out ((c : Int) + (i : Int)) (by omega) (by have := HPp.out; omega)⟩ h.1)
          have hs7 := hB7.size
          have hT7 := hT6.next hB7
          clear hcol HCe c0 c1 S hB6 hT6 bga bgb
          go_wp2_with fail
          refine (wpIn_wide (n := 5)).1 ?_
          refine wpIn_rangeBox rfl (by omega) (gf := gf) (lb := lb) rfl trivial eg (hg 4 (by omega)) (fun h h' => h.trans h') (fun W l o hl => Keep.putFar W (by omega) o) (Below.refl _ _) (fun _ => rfl)
            (fun pre W => Good p pre ∧ Turn V gq ga gb (M / 2) p ((c : Int) + (i : Int)) pre W)
            (fun c pre W => c = .ret ∧ ¬ Good p pre)
            ((far_pure _ _).and (Turn.far (by omega) (by omega) (by omega) (by have := hBx.size; omega)))
            (fun c => far_pure _ (fun pre => c = .ret ∧ ¬ Good p pre))
            ⟨⟨List.nodup_nil, by simp⟩, hT7⟩
            37 (fun z : Int => #[.int .i64 ((c : Int) + (i : Int)), .int .i64 z]) ?a1
            ?assign ?body ?done ?stop
          case assign =>
            rintro l' pre z W K hsz ⟨hp, hn⟩ hK
            gi_wp2
            have hbx := Blk.new W 37 #[.int .i64 ((c : Int) + (i : Int)), .int .i64 z]
            have hSi : Since w7.heap.size W (W.alloc (.cells #[.int .i64 ((c : Int) + (i : Int)), .int .i64 z] 37)) := Since.below (below_one W _)
            have hKe : Keep W6.heap.size (w7.heap.size - W6.heap.size) W (W.alloc (.cells #[.int .i64 ((c : Int) + (i : Int)), .int .i64 z] 37)) := Keep.alloc (by omega) _
            have hTo := hn.next (below_one W (.cells #[.int .i64 ((c : Int) + (i : Int)), .int .i64 z] 37))
            generalize W.alloc (.cells #[.int .i64 ((c : Int) + (i : Int)), .int .i64 z] 37) = W' at *
            generalize W.heap.size = Bx at *
            exact hK Bx _ hSi hKe ⟨hp, hTo⟩ hbx
          case body =>
            rename_i x1 x2 x3 x4 x5 x6 x7 x8 x9 x10 x11 x12 x13 x14 x15 x16 x17 x18 x19 x20 x21 x22 x23 x24
            clear hK hsl hss hLeft hW hT7 hB7 eg eq hg HMp HZ hmm c0 c1 hB1 hdec t1 wj d1 d2 hgl
            try clear x24
            try clear x23
            try clear x22
            try clear x21
            try clear x20
            try clear x19
            try clear x18
            try clear x17
            try clear x16
            try clear x15
            try clear x14
            try clear x13
            try clear x12
            try clear x11
            try clear x10
            try clear x9
            try clear x8
            try clear x7
            try clear x6
            try clear x5
            try clear x4
            try clear x3
            try clear x2
            try clear x1
            rintro l' pre z Bx W hsz ⟨hgd, hn⟩ hbx hlz
            have SW := SV.next hn.hB
            have HG := Lib.hid hgd
            clear hgd
            obtain ⟨⟨D0, D1⟩, E0, E1⟩ := dg_lt HR.out.2 ((c : Int) + (i : Int)) z
            obtain ⟨D, hD⟩ : ∃ D, dgI p ((c : Int) + (i : Int)) z = D := ⟨_, rfl⟩
            obtain ⟨E, hE⟩ : ∃ E, slI p ((c : Int) + (i : Int)) z = E := ⟨_, rfl⟩
            rw [hD] at D0 D1
            rw [hE] at E0 E1
            have hcol := HCol.out ((c : Int) + (i : Int)) (by omega) (by have := HPp.out; omega)
            have w0 := SW.b0.cell 0
            have w1 := SW.b0.cell 1
            have z0 := hbx.cell 0
            have z1 := hbx.cell 1
            simp only [List.getElem?_toArray, List.getElem?_cons_zero, List.getElem?_cons_succ] at w0 w1 z0 z1
            have hR7 : w.heap.size < w7.heap.size := by have := hBV.size; omega
            by_cases hzr : 0 ≤ z ∧ z < p - 1
            · have hcell : HasCell k p ((c : Int) + (i : Int)) z := ⟨hcol, hzr⟩
              have HDz := Lib.hid (show ∀ W, Laid W → Calls Tryd.prog 29 #[.agg #[.int .i64 k, .int .i64 p], .agg #[.int .i64 ((c : Int) + (i : Int)), .int .i64 z]] W (fun e w' => e = .returned (.tuple #[.int .i64 D, .int .i64 0]) ∧ Below W.heap.size W w') from fun W hL => by rw [← hD]; exact (HDg.out _ _ W hL).mono fun _ _ h => tells3_yes HR.out hcell h)
              have HSz := Lib.hid (show ∀ W, Laid W → Calls Tryd.prog 30 #[.agg #[.int .i64 k, .int .i64 p], .agg #[.int .i64 ((c : Int) + (i : Int)), .int .i64 z]] W (fun e w' => e = .returned (.tuple #[.int .i64 E, .int .i64 0]) ∧ Below W.heap.size W w') from fun W hL => by rw [← hE]; exact (HSl.out _ _ W hL).mono fun _ _ h => tells3_yes HR.out hcell h)
              have HDD := Lib.hid hD
              have HEE := Lib.hid hE
              have wD : (Lit.int .i64 D).wf = true := WalkArith.wf_i64 (by omega)
              have wE : (Lit.int .i64 E).wf = true := WalkArith.wf_i64 (by omega)
              clear hD hE hcell hcol
              gi_wp2_with fail
              refine ⟨trivial, (CallsIn.inRound l' (callsIn_wide.2 (HDz.out _ SW.hL))).mono ?_⟩
              rintro e wa ⟨rfl, hBa⟩
              have hna := hn.next hBa
              have Sa := SV.next hna.hB
              have hbxa := hbx.below hBa hbx.lt
              clear w0 w1 z0 z1
              have w0 := Sa.b0.cell 0
              have w1 := Sa.b0.cell 1
              have z0 := hbxa.cell 0
              have z1 := hbxa.cell 1
              simp only [List.getElem?_toArray, List.getElem?_cons_zero, List.getElem?_cons_succ] at w0 w1 z0 z1
              gi_wp2_with fail
              refine ⟨trivial, (CallsIn.inRound l' (callsIn_wide.2 (HSz.out _ Sa.hL))).mono ?_⟩
              rintro e wb ⟨rfl, hBb⟩
              have hnb := hna.next hBb
              have Sb := SV.next hnb.hB
              have hBab := below_in hBa hBb
              clear w0 w1 z0 z1
              have m1 := hnb.b1.one
              have m2 := hnb.b2.one
              have crx := Sb.bR.one
              have frx := Sb.bR.frozen 0
              have lk1 := hnb.s1.look D wD
              by_cases hmem : z ∈ pre
              · rw [if_pos (List.mem_map.2 ⟨z, hmem, HDD.out⟩)] at lk1
                have HN := Lib.hid (show ¬ Good p (pre ++ [z]) from fun h => (List.nodup_append.1 h.1).2.2 z hmem z (by simp) rfl)
                clear hmem
                gi_wp2_with (refine ⟨trivial, ?_⟩; gi_at_call 19; refine (CallsIn.inRound l' (callsIn_wide.2 (num_any _ _))).mono ?_; rintro e w' ⟨rfl, rfl⟩)
                exact ⟨(Since.below hBab).trans (Since.setCell _ hR7 _), rfl, HN.out⟩
              · obtain ⟨kn1, kn2⟩ := keys_new HR.out.2 ((c : Int) + (i : Int)) HG.out hzr hmem
                rw [HDD.out] at kn1
                rw [HEE.out] at kn2
                have lk2 := hnb.s2.look E wE
                rw [if_neg kn1] at lk1
                rw [if_neg kn2] at lk2
                have HN := Lib.hid (good_next HG.out hzr hmem)
                clear hmem kn1 kn2
                gi_wp2_with (refine ⟨trivial, ?_⟩; gi_at_call 19; refine (CallsIn.inRound l' (callsIn_wide.2 (num_any _ _))).mono ?_; rintro e w' ⟨rfl, rfl⟩)
                have hl1 : (pre.map (dgI p ((c : Int) + (i : Int)))).length ≤ 1000 := by rw [List.length_map]; omega
                have hl2 : (pre.map (slI p ((c : Int) + (i : Int)))).length ≤ 1000 := by rw [List.length_map]; omega
                have hnd : Turn V gq ga gb (M / 2) p ((c : Int) + (i : Int)) pre wb.drew := ⟨hnb.s1, hnb.s2, hnb.b1, hnb.b2, hnb.ba, hnb.bb, hnb.hB.drew⟩
                refine region_round_held (fun W' => W'.cell? ⟨gq + 1 + 1, 0, none⟩ = some (.map (some gq)) ∧ W'.cell? ⟨gq + 1 + 1 + 1, 0, none⟩ = some (.map (some (gq + 1)))) (fun ⟨_, _, h⟩ => h) (by kernel_rfl) (by kernel_rfl) ⟨m1, m2⟩ (fun hS => ?_)
                refine take_put (i := 0) (d := 189) (v := .map (some gq)) rfl (by kernel_rfl) (by kernel_rfl) (by kernel_rfl) rfl (fun _ _ _ h => h) (Or.inl ⟨by rfl, fun w hS => by obtain ⟨h0, h1⟩ := hS; go_simp⟩) hS ?_
                simp only [List.setIfInBounds_toArray, List.set_cons_zero, List.set_cons_succ]
                refine take_put (i := 1) (d := 190) (v := .int .i64 D) rfl (by kernel_rfl) (by kernel_rfl) (by kernel_rfl) rfl (fun _ _ _ h => h) (Or.inl ⟨by rfl, fun w hS => by obtain ⟨h0, h1⟩ := hS; go_simp⟩) hS ?_
                simp only [List.setIfInBounds_toArray, List.set_cons_zero, List.set_cons_succ]
                refine take_put (i := 2) (d := 191) (v := .map (some (gq + 1))) rfl (by kernel_rfl) (by kernel_rfl) (by kernel_rfl) rfl (fun _ _ _ h => h) (Or.inl ⟨by rfl, fun w hS => by obtain ⟨h0, h1⟩ := hS; go_simp⟩) hS ?_
                simp only [List.setIfInBounds_toArray, List.set_cons_zero, List.set_cons_succ]
                refine take_put (i := 3) (d := 192) (v := .int .i64 E) rfl (by kernel_rfl) (by kernel_rfl) (by kernel_rfl) rfl (fun _ _ _ h => h) (Or.inl ⟨by rfl, fun w hS => by obtain ⟨h0, h1⟩ := hS; go_simp⟩) hS ?_
                simp only [List.setIfInBounds_toArray, List.set_cons_zero, List.set_cons_succ]
                refine wpAnyH_ready (rs := [4]) (by kernel_rfl) (by simp) ?_
                refine AllReadyH.cons rfl (fun K4 hK4 => ?_) AllReadyH.nil
                rw [if_pos (by rfl)]
                refine wp_update _ _ _ rfl rfl gq (pre.map (dgI p ((c : Int) + (i : Int)))) D rfl hnd.s1 hl1 rfl rfl wD ?_
                intro W1 s1 g1
                refine hK4.out _ _ ⟨(hnd.b1.grown g1 (fun e => by injection e with e; omega)).one, (hnd.b2.grown g1 (fun e => by injection e with e; omega)).one⟩ (fun hS => ?_)
                clear hK4 K4
                have s2b := hnd.s2.kept g1 (show some (gq + 1) ≠ some gq from fun e => by injection e with e; omega)
                refine wpAnyH_ready (rs := [5]) (by kernel_rfl) (by simp) ?_
                refine AllReadyH.cons rfl (fun K5 hK5 => ?_) AllReadyH.nil
                rw [if_pos (by rfl)]
                refine wp_update _ _ _ rfl rfl (gq + 1) (pre.map (slI p ((c : Int) + (i : Int)))) E rfl s2b hl2 rfl rfl wE ?_
                intro W2 s2 g2
                refine hK5.out _ _ ⟨((hnd.b1.grown g1 (fun e => by injection e with e; omega)).grown g2 (fun e => by injection e with e; omega)).one, ((hnd.b2.grown g1 (fun e => by injection e with e; omega)).grown g2 (fun e => by injection e with e; omega)).one⟩ (fun hS => ?_)
                clear hK5 K5
                refine wpAnyH_done (by kernel_rfl) ?_ _
                have ba2 := (hnd.ba.grown g1 (fun e => by injection e with e; omega)).grown g2 (fun e => by injection e with e; omega)
                have bb2 := (hnd.bb.grown g1 (fun e => by injection e with e; omega)).grown g2 (fun e => by injection e with e; omega)
                have s1r := s1
                have s2r := s2
                rw [← HDD.out] at s1r
                rw [← HEE.out] at s2r
                have HT := hnd.more hga hgb hab haq hbq s1r g1 s2r g2
                obtain ⟨x1, x2⟩ := downTo_bounds (dgI p ((c : Int) + (i : Int))) (M / 2) (fun x => by have := (dg_lt HR.out.2 ((c : Int) + (i : Int)) x).1; omega) pre.length pre rfl
                obtain ⟨x3, x4⟩ := downTo_bounds (slI p ((c : Int) + (i : Int))) (M / 2) (fun x => by have := (dg_lt HR.out.2 ((c : Int) + (i : Int)) x).2; omega) pre.length pre rfl
                rw [HDD.out, HEE.out] at HT
                generalize downTo (dgI p ((c : Int) + (i : Int))) (M / 2) pre = A at *
                generalize downTo (slI p ((c : Int) + (i : Int))) (M / 2) pre = B at *
                have y1 : -1000 ≤ A := by omega
                have y2 : A ≤ 1000 := by omega
                have y3 : -1000 ≤ B := by omega
                have y4 : B ≤ 1000 := by omega
                have HT := Lib.hid HT
                have ca := ba2.one
                have fa := ba2.frozen 0
                have cb := bb2.one
                have fb := bb2.frozen 0
                have zs1 := hBab.size
                have zs2 : wb.heap.size ≤ W1.heap.size := g1.size
                have zs3 := g2.size
                have kd0 : Since w7.heap.size wb wb.drew := ⟨Nat.le_refl _, fun _ _ _ => rfl⟩
                have kk1 : Since w7.heap.size W W2 := (((Since.below hBab).trans kd0).trans (Since.grown g1 (fun r e => by injection e with e; omega))).trans (Since.grown g2 (fun r e => by injection e with e; omega))
                have kk2 : Keep W6.heap.size (w7.heap.size - W6.heap.size) W W2 := (((Keep.below hBab (by omega)).trans (Keep.drew _)).trans (Keep.grown g1 (by show _ ≤ wb.heap.size; omega) (fun r e => .inl (by injection e with e; omega)))).trans (Keep.grown g2 (by omega) (fun r e => .inl (by injection e with e; omega)))
                have kd1 : Since w7.heap.size W2 W2.drew := ⟨Nat.le_refl _, fun _ _ _ => rfl⟩
                clear x1 x2 x3 x4 lk1 lk2 m1 m2 hS hl1 hl2
                gi_wp2_with fail
                have wvA : IntKind.i64.wrap (A - D) = A - D := by rw [IntKind.wrap_i64]; omega
                have wvB : IntKind.i64.wrap (B - E) = B - E := by rw [IntKind.wrap_i64]; omega
                have ca1 : W2.drew.cell? ⟨ga, 0, none⟩ = some (.int .i64 A) := ca
                have fa1 : W2.drew.frozen? ⟨ga, 0, none⟩ = false := fa
                have cb1 : W2.drew.cell? ⟨gb, 0, none⟩ = some (.int .i64 B) := cb
                have fb1 : W2.drew.frozen? ⟨gb, 0, none⟩ = false := fb
                have bbx : Blk (W2.drew.setCell ⟨ga, 0, none⟩ (.int .i64 (A - D))) gb 3 #[.int .i64 B] := Blk.far (show Blk W2.drew gb 3 #[.int .i64 B] from bb2) (p := ⟨ga, 0, none⟩) (fun e => hab e.symm) _
                have cb2 := bbx.one
                have fb2 := bbx.frozen 0
                refine region_round (fun ⟨_, _, h⟩ => h) (by kernel_rfl) (by kernel_rfl) ?_
                refine take_any (i := 4) (d := 197) (v := .int .i64 E) rfl (by kernel_rfl) (by kernel_rfl) (by kernel_rfl) rfl (fun _ _ _ h => h) (Or.inl ⟨by rfl, fun w => by go_simp⟩) ?_
                simp only [List.setIfInBounds_toArray, List.set_cons_zero, List.set_cons_succ]
                refine take_any (i := 1) (d := 194) (v := .int .i64 D) rfl (by kernel_rfl) (by kernel_rfl) (by kernel_rfl) rfl (fun _ _ _ h => h) (Or.inl ⟨by rfl, fun w => by go_simp⟩) ?_
                simp only [List.setIfInBounds_toArray, List.set_cons_zero, List.set_cons_succ]
                refine wpAny_ready (rs := [0, 3]) (by kernel_rfl) (by simp) ?_
                refine AllReady.cons rfl (fun K hK => ?_) (AllReady.cons rfl (fun K hK => ?_) AllReady.nil)
                · go_simp
                  refine hK _ _ ?_
                  clear hK K
                  refine take_any (i := 2) (d := 195) (v := .int .i64 (A - D)) rfl (by kernel_rfl) (by kernel_rfl) (by kernel_rfl) rfl (fun _ _ _ h => h) (Or.inl ⟨by rfl, fun w => by go_simp <;> simp [wvA]⟩) ?_
                  simp only [List.setIfInBounds_toArray, List.set_cons_zero, List.set_cons_succ]
                  refine wpAny_ready (rs := [3, 6]) (by kernel_rfl) (by simp) ?_
                  refine AllReady.cons rfl (fun K hK => ?_) (AllReady.cons rfl (fun K hK => ?_) AllReady.nil)
                  · go_simp
                    refine hK _ _ ?_
                    clear hK K
                    refine take_any (i := 5) (d := 198) (v := .int .i64 (B - E)) rfl (by kernel_rfl) (by kernel_rfl) (by kernel_rfl) rfl (fun _ _ _ h => h) (Or.inl ⟨by rfl, fun w => by go_simp <;> simp [wvB]⟩) ?_
                    simp only [List.setIfInBounds_toArray, List.set_cons_zero, List.set_cons_succ]
                    refine wpAny_ready (rs := [6]) (by kernel_rfl) (by simp) ?_
                    refine AllReady.cons rfl (fun K hK => ?_) AllReady.nil
                    go_simp
                    refine hK _ _ ?_
                    clear hK K
                    refine wpAny_ready (rs := [7]) (by kernel_rfl) (by simp) ?_
                    refine AllReady.cons rfl (fun K hK => ?_) AllReady.nil
                    go_simp
                    refine hK _ _ ?_
                    clear hK K
                    refine wpAny_done (by kernel_rfl) ?_ _
                    gi_wp2
                    exact ⟨((kk1.trans kd1).trans (Since.setCell _ (by simp; omega) _)).trans (Since.setCell _ (by simp; omega) _), ((kk2.trans (Keep.drew _)).trans (Keep.setCell _ (by simp; omega) _)).trans (Keep.setCell _ (by simp; omega) _), HN.out, HT.out⟩
                  · go_simp
                    refine hK _ _ ?_
                    clear hK K
                    refine wpAny_ready (rs := [3]) (by kernel_rfl) (by simp) ?_
                    refine AllReady.cons rfl (fun K hK => ?_) AllReady.nil
                    go_simp
                    refine hK _ _ ?_
                    clear hK K
                    refine take_any (i := 5) (d := 198) (v := .int .i64 (B - E)) rfl (by kernel_rfl) (by kernel_rfl) (by kernel_rfl) rfl (fun _ _ _ h => h) (Or.inl ⟨by rfl, fun w => by go_simp <;> simp [wvB]⟩) ?_
                    simp only [List.setIfInBounds_toArray, List.set_cons_zero, List.set_cons_succ]
                    refine wpAny_ready (rs := [7]) (by kernel_rfl) (by simp) ?_
                    refine AllReady.cons rfl (fun K hK => ?_) AllReady.nil
                    go_simp
                    refine hK _ _ ?_
                    clear hK K
                    refine wpAny_done (by kernel_rfl) ?_ _
                    gi_wp2
                    exact ⟨((kk1.trans kd1).trans (Since.setCell _ (by simp; omega) _)).trans (Since.setCell _ (by simp; omega) _), ((kk2.trans (Keep.drew _)).trans (Keep.setCell _ (by simp; omega) _)).trans (Keep.setCell _ (by simp; omega) _), HN.out, HT.out⟩
                · go_simp
                  refine hK _ _ ?_
                  clear hK K
                  refine take_any (i := 5) (d := 198) (v := .int .i64 (B - E)) rfl (by kernel_rfl) (by kernel_rfl) (by kernel_rfl) rfl (fun _ _ _ h => h) (Or.inl ⟨by rfl, fun w => by go_simp <;> simp [wvB]⟩) ?_
                  simp only [List.setIfInBounds_toArray, List.set_cons_zero, List.set_cons_succ]
                  refine wpAny_ready (rs := [0]) (by kernel_rfl) (by simp) ?_
                  refine AllReady.cons rfl (fun K hK => ?_) AllReady.nil
                  go_simp
                  refine hK _ _ ?_
                  clear hK K
                  refine take_any (i := 2) (d := 195) (v := .int .i64 (A - D)) rfl (by kernel_rfl) (by kernel_rfl) (by kernel_rfl) rfl (fun _ _ _ h => h) (Or.inl ⟨by rfl, fun w => by go_simp <;> simp [wvA]⟩) ?_
                  simp only [List.setIfInBounds_toArray, List.set_cons_zero, List.set_cons_succ]
                  refine wpAny_ready (rs := [6]) (by kernel_rfl) (by simp) ?_
                  refine AllReady.cons rfl (fun K hK => ?_) AllReady.nil
                  go_simp
                  refine hK _ _ ?_
                  clear hK K
                  refine wpAny_ready (rs := [7]) (by kernel_rfl) (by simp) ?_
                  refine AllReady.cons rfl (fun K hK => ?_) AllReady.nil
                  go_simp
                  refine hK _ _ ?_
                  clear hK K
                  refine wpAny_done (by kernel_rfl) ?_ _
                  gi_wp2
                  exact ⟨((kk1.trans kd1).trans (Since.setCell _ (by simp; omega) _)).trans (Since.setCell _ (by simp; omega) _), ((kk2.trans (Keep.drew _)).trans (Keep.setCell _ (by simp; omega) _)).trans (Keep.setCell _ (by simp; omega) _), HN.out, HT.out⟩
            · have hnc : ¬ HasCell k p ((c : Int) + (i : Int)) z := fun h => hzr h.2
              have HDz := Lib.hid (show ∀ W, Laid W → Calls Tryd.prog 29 #[.agg #[.int .i64 k, .int .i64 p], .agg #[.int .i64 ((c : Int) + (i : Int)), .int .i64 z]] W (fun e w' => e = .returned (.tuple #[.int .i64 0, .int .i64 4]) ∧ Below W.heap.size W w') from fun W hL => by exact (HDg.out _ _ W hL).mono fun _ _ h => ⟨h.2.1 HR.out hnc, h.2.2.2⟩)
              have HSz := Lib.hid (show ∀ W, Laid W → Calls Tryd.prog 30 #[.agg #[.int .i64 k, .int .i64 p], .agg #[.int .i64 ((c : Int) + (i : Int)), .int .i64 z]] W (fun e w' => e = .returned (.tuple #[.int .i64 0, .int .i64 4]) ∧ Below W.heap.size W w') from fun W hL => by exact (HSl.out _ _ W hL).mono fun _ _ h => ⟨h.2.1 HR.out hnc, h.2.2.2⟩)
              have HN := Lib.hid (show ¬ Good p (pre ++ [z]) from fun h => hzr (h.2 z (by simp)))
              clear hzr hnc hcol hD hE D0 D1 E0 E1
              gi_wp2_with fail
              refine ⟨trivial, (CallsIn.inRound l' (callsIn_wide.2 (HDz.out _ SW.hL))).mono ?_⟩
              rintro e wa ⟨rfl, hBa⟩
              have hna := hn.next hBa
              have Sa := SV.next hna.hB
              have hbxa := hbx.below hBa hbx.lt
              clear w0 w1 z0 z1
              have w0 := Sa.b0.cell 0
              have w1 := Sa.b0.cell 1
              have z0 := hbxa.cell 0
              have z1 := hbxa.cell 1
              simp only [List.getElem?_toArray, List.getElem?_cons_zero, List.getElem?_cons_succ] at w0 w1 z0 z1
              gi_wp2_with fail
              refine ⟨trivial, (CallsIn.inRound l' (callsIn_wide.2 (HSz.out _ Sa.hL))).mono ?_⟩
              rintro e wb ⟨rfl, hBb⟩
              have hnb := hna.next hBb
              have Sb := SV.next hnb.hB
              have hBab := below_in hBa hBb
              clear w0 w1 z0 z1
              have m1 := hnb.b1.one
              have m2 := hnb.b2.one
              have crx := Sb.bR.one
              have frx := Sb.bR.frozen 0
              gi_wp2_with (refine ⟨trivial, ?_⟩; gi_at_call 19; refine (CallsIn.inRound l' (callsIn_wide.2 (num_any _ _))).mono ?_; rintro e w' ⟨rfl, rfl⟩)
              exact ⟨(Since.below hBab).trans (Since.setCell _ hR7 _), rfl, HN.out⟩
          case done =>
            rename_i x1 x2 x3 x4 x5 x6 x7 x8 x9 x10 x11 x12 x13 x14 x15 x16 x17 x18 x19 x20 x21 x22 x23 x24
            clear HDg HSl HCol hmm c0 c1 hB1 hdec eg eq hg hT7
            try clear x20
            try clear x18
            try clear x15
            try clear x14
            try clear x12
            try clear x11
            try clear x10
            try clear x9
            try clear x8
            try clear x7
            try clear x6
            try clear x5
            try clear x4
            try clear x3
            try clear x2
            rintro Dd ys W hD eys ⟨hgd, hn⟩ hKD
            obtain rfl := eys.symm
            have hcast : ((c + i : Nat) : Int) = (c : Int) + (i : Int) := by push_cast; rfl
            have hci : c + i < 24 := by have := HPp.out; omega
            obtain ⟨k1, k2⟩ := holds_dg p HR.out.2 (c + i) (List.mem_range.2 hci)
            rw [hcast] at k1 k2
            have ba := hn.ba
            have bb := hn.bb
            rw [HZ.out, HMp.out, k1] at ba
            rw [HZ.out, HMp.out, k2] at bb
            obtain ⟨⟨A0, A1⟩, B0, B1⟩ := lack_lt HR.out.2 ((c : Int) + (i : Int))
            obtain ⟨n1, n2⟩ := holds_lack p HR.out.2 c (List.mem_range.2 hc8)
            have hip : i < p.toNat := by have := HPp.out; omega
            have new1 : dgLackI p ((c : Int) + (i : Int)) ∉ lacksD p c i := lack_new (fun (j : Nat) => dgLackI p ((c : Int) + (j : Int))) p.toNat n1 hip
            have new2 : slLackI p ((c : Int) + (i : Int)) ∉ lacksS p c i := lack_new (fun (j : Nat) => slLackI p ((c : Int) + (j : Int))) p.toNat n2 hip
            have hnx1 := lacksD_next p c i
            have hnx2 := lacksS_next p c i
            obtain ⟨A, hA⟩ : ∃ A, dgLackI p ((c : Int) + (i : Int)) = A := ⟨_, rfl⟩
            obtain ⟨B, hB⟩ : ∃ B, slLackI p ((c : Int) + (i : Int)) = B := ⟨_, rfl⟩
            rw [hA] at ba A0 A1 new1 hnx1
            rw [hB] at bb B0 B1 new2 hnx2
            have wA1 : (Lit.int .i64 A).wf = true := WalkArith.wf_i64 (by omega)
            have wB1 : (Lit.int .i64 B).wf = true := WalkArith.wf_i64 (by omega)
            have hs1 := hsl.below hn.hB hsl.lt
            have hs2 := hss.below hn.hB hss.lt
            have lk1 := hs1.look A wA1
            have lk2 := hs2.look B wB1
            rw [if_neg new1] at lk1
            rw [if_neg new2] at lk2
            have hlen : ((zs.map (dgI p ((c : Int) + (i : Int)))).length : Int) = p - 1 := by rw [List.length_map, HZ.out]; exact (rows_walk p HR.out.2).2.1
            have hln := hn.s1.len (keys_nodup HR.out.2 _ hgd).1 3
            rw [hlen] at hln
            have SW := SV.next hn.hB
            have w0 := SW.b0.cell 0
            have w1 := SW.b0.cell 1
            simp only [List.getElem?_toArray, List.getElem?_cons_zero, List.getElem?_cons_succ] at w0 w1
            have m1 := hn.b1.one
            have ca := ba.one
            have cb := bb.one
            have dA : decide (p ≤ A) = false := decide_eq_false (by omega)
            have dA0 : decide (A < 0) = false := decide_eq_false (by omega)
            have dB : decide (p ≤ B) = false := decide_eq_false (by omega)
            have dB0 : decide (B < 0) = false := decide_eq_false (by omega)
            have HX1 := Lib.hid hnx1
            have HX2 := Lib.hid hnx2
            have hL1 : (lacksD p c i).length ≤ 1000 := by unfold lacksD; rw [List.length_map, List.length_range]; omega
            have hL2 : (lacksS p c i).length ≤ 1000 := by unfold lacksS; rw [List.length_map, List.length_range]; omega
            clear k1 k2 n1 n2 new1 new2 hnx1 hnx2 hA hB hlen hgd hcast hip hci
            clear eys
            have hi17 : (i : Int) < 17 := by have := HPp.out; omega
            go_wp2_with fail
            refine wp_region_noPanic ?_
            refine wp_region_held_drew (S := fun W' => W'.cell? ⟨ga, 0, none⟩ = some (.int .i64 A) ∧ W'.cell? ⟨gb, 0, none⟩ = some (.int .i64 B)) (by kernel_rfl) ⟨ca, cb⟩ (fun hS => ?_)
            have bad : Blk W.drew ga 3 #[.int .i64 A] := ba
            have bbd : Blk W.drew gb 3 #[.int .i64 B] := bb
            have hs1d : Seen W.drew gl (lacksD p c i) := hs1
            have hs2d : Seen W.drew (gl + 1) (lacksS p c i) := hs2
            have hVs := hBV.size
            refine take_put (i := 0) (d := 235) (v := .map (some gl)) rfl (by kernel_rfl) (by kernel_rfl) (by kernel_rfl) rfl (fun _ _ _ h => h) (Or.inl ⟨by rfl, fun w hS => by obtain ⟨h0, h1⟩ := hS; go_simp⟩) hS ?_
            simp only [List.setIfInBounds_toArray, List.set_cons_zero, List.set_cons_succ]
            refine take_put (i := 1) (d := 236) (v := .int .i64 A) rfl (by kernel_rfl) (by kernel_rfl) (by kernel_rfl) rfl (fun _ _ _ h => h) (Or.inl ⟨by rfl, fun w hS => by obtain ⟨h0, h1⟩ := hS; go_simp⟩) hS ?_
            simp only [List.setIfInBounds_toArray, List.set_cons_zero, List.set_cons_succ]
            refine take_put (i := 2) (d := 237) (v := .map (some (gl + 1))) rfl (by kernel_rfl) (by kernel_rfl) (by kernel_rfl) rfl (fun _ _ _ h => h) (Or.inl ⟨by rfl, fun w hS => by obtain ⟨h0, h1⟩ := hS; go_simp⟩) hS ?_
            simp only [List.setIfInBounds_toArray, List.set_cons_zero, List.set_cons_succ]
            refine take_put (i := 3) (d := 238) (v := .int .i64 B) rfl (by kernel_rfl) (by kernel_rfl) (by kernel_rfl) rfl (fun _ _ _ h => h) (Or.inl ⟨by rfl, fun w hS => by obtain ⟨h0, h1⟩ := hS; go_simp⟩) hS ?_
            simp only [List.setIfInBounds_toArray, List.set_cons_zero, List.set_cons_succ]
            refine wpAnyH_ready (rs := [4]) (by kernel_rfl) (by simp) ?_
            refine AllReadyH.cons rfl (fun K4 hK4 => ?_) AllReadyH.nil
            rw [if_pos (by rfl)]
            refine wp_update _ _ _ rfl rfl gl (lacksD p c i) A rfl hs1d hL1 rfl rfl wA1 ?_
            intro W1 s1 g1
            refine hK4.out _ _ ⟨(bad.grown g1 (fun e => by injection e with e; omega)).one, (bbd.grown g1 (fun e => by injection e with e; omega)).one⟩ (fun hS => ?_)
            clear hK4 K4
            have s2b := hs2d.kept g1 (show some (gl + 1) ≠ some gl from fun e => by injection e with e; omega)
            refine wpAnyH_ready (rs := [5]) (by kernel_rfl) (by simp) ?_
            refine AllReadyH.cons rfl (fun K5 hK5 => ?_) AllReadyH.nil
            rw [if_pos (by rfl)]
            refine wp_update _ _ _ rfl rfl (gl + 1) (lacksS p c i) B rfl s2b hL2 rfl rfl wB1 ?_
            intro W2 s2 g2
            refine hK5.out _ _ ⟨((bad.grown g1 (fun e => by injection e with e; omega)).grown g2 (fun e => by injection e with e; omega)).one, ((bbd.grown g1 (fun e => by injection e with e; omega)).grown g2 (fun e => by injection e with e; omega)).one⟩ (fun hS => ?_)
            clear hK5 K5
            refine wpAnyH_done (by kernel_rfl) (NoPanic.normal ?_) _
            have hSW : St W.drew w.heap.size wA.heap.size k p := SW.next (Below.refl _ _).drew
            have hlp := hSW.hL.pos
            have S2 : St W2 w.heap.size wA.heap.size k p := (hSW.grown g1 (fun r e => by injection e with e; omega)).grown g2 (fun r e => by injection e with e; omega)
            have t1' : Seen W2 gl (lacksD p c (i + 1)) := by rw [HX1.out]; exact s1.kept g2 (show some gl ≠ some (gl + 1) from fun e => by injection e with e; omega)
            have t2' : Seen W2 (gl + 1) (lacksS p c (i + 1)) := by rw [HX2.out]; exact s2
            have hLf : Left w.heap.size W.drew (Dd :: Ds) := hLeft.more hn.hB (by have := hSW.bR.lt; omega) (by have := hBx.size; omega) hKD
            have hLg := Left.grown (Left.grown hLf g1 hs1d) g2 s2b
            have hBn : Below gl V0 W2 := (((hBV.trans (hn.hB.mono (by omega))).drew).grown g1 (by have := hn.hB.size; show gl ≤ W.heap.size; omega) (fun k e => by injection e with e; omega)).grown g2 (by have := hn.hB.size; have : W.heap.size ≤ W1.heap.size := g1.size; omega) (fun k e => by injection e with e; omega)
            clear hS bad bbd ba bb hs1 hs2 hs1d hs2d lk1 lk2 hln s1 s2 s2b
            go_wp2_with fail
            have hcn : (c : Int) + (i : Int) + 1 = (c : Int) + ((i + 1 : Nat) : Int) := by push_cast; omega
            have hz := fun (y21 y22 y23 y24 y131 y132 y133 y134 y135 y136 y137 y138 y139 y140 y141 y142 y143 y144 y145 y146 y147 y148 y149 y150 y151 y152 y153 y154 y155 y156 y157 y199 y200 y201 y202 y203 y204 y205 y206 y207 y208 y209 y210 y211 y212 y213 y214 y215 y216 y217 y218 y219 y220 y221 y222 y223 y224 y225 y226 y227 y228 y229 y230 y231 y232 y233 y234 y235 y236 y237 y238 : Value) hr => hK (m - 1) [.int .i64 ((c : Int) + (i : Int) + 1), y21, y22, y23, y24, y131, y132, y133, y134, y135, y136, y137, y138, y139, y140, y141, y142, y143, y144, y145, y146, y147, y148, y149, y150, y151, y152, y153, y154, y155, y156, y157, y199, y200, y201, y202, y203, y204, y205, y206, y207, y208, y209, y210, y211, y212, y213, y214, y215, y216, y217, y218, y219, y220, y221, y222, y223, y224, y225, y226, y227, y228, y229, y230, y231, y232, y233, y234, y235, y236, y237, y238] (Dd :: Ds) W2 (by omega) hr
            simp (maxSteps := 20000000) only [sets, List.setIfInBounds_toArray, List.set_cons_zero, List.set_cons_succ] at hz
            refine hz _ _ _ _ _ _ _ _ _ _ _ _ _ _ _ _ _ _ _ _ _ _ _ _ _ _ _ _ _ _ _ _ _ _ _ _ _ _ _ _ _ _ _ _ _ _ _ _ _ _ _ _ _ _ _ _ _ _ _ _ _ _ _ _ _ _ _ _ _ _ _ ⟨i + 1, _ , _ , _ , _ , _ , _ , _ , _ , _ , _ , _ , _ , _ , _ , _ , _ , _ , _ , _ , _ , _ , _ , _ , _ , _ , _ , _ , _ , _ , _ , _ , _ , _ , _ , _ , _ , _ , _ , _ , _ , _ , _ , _ , _ , _ , _ , _ , _ , _ , _ , _ , _ , _ , _ , _ , _ , _ , _ , _ , _ , _ , _ , _ , _ , _ , _ , _ , _ , _ , _ , _, congrArg (fun x : Int => Value.int .i64 x :: _) hcn, by omega, S2, t1', t2', hLg, hBn⟩
          case stop =>
            rintro D c pre W hD hsp ⟨rfl, h⟩ hKD
            exact absurd (good_rows HR.out.2 (by rw [← HZ.out]; exact hsp)) h
      · obtain rfl : i = P := by omega
        have hdec : decide ((i : Int) < p) = false := by have := HPp.out; simp; omega
        clear HPp
        gi_wp2_with fail
        go_wp2_with (go_at_call 22; refine (works_any _ S.hL).mono ?_; rintro e wf ⟨rfl, hBf⟩; have crx := (S.bR.below hBf S.bR.lt).one; have frx := (S.bR.below hBf S.bR.lt).frozen 0)
        have h3 : Blk (wf.setCell ⟨w.heap.size, 0, none⟩ (.bool true)) w.heap.size 4 #[.bool true] := (S.bR.below hBf S.bR.lt).set_ 0 _
        refine leaves_blks w Ds _ ((hLeft.below hBf).set_ _ _) ((below_in hW hBf).setCell (Nat.le_refl _) _) fun W' hB' hk => ?_
        have cr := (hk _ _ _ h3).one
        exact ⟨.bool true, by simp [results, Tryd.results6, go_sem, cr], rfl, hB'⟩

set_option maxRecDepth 100000 in
theorem lifted (os : Os) (started : os.Started) (H : Type) (enc : TypeId × Value → H) :
    ReturnsInHanded {} Tryd.checked os 6 .any (fun w args => (Rows.shapeHoldsSpec.pre enc Tryd.prog Tryd.f6 [] false w args ∧ laidMetH Tryd.prog laidL w) ∧ sizedMet enc Tryd.prog Tryd.f6 (OpenSpec.ofChange Rows.shapeHoldsSpec) false w args)
      (Rows.shapeHoldsSpec.post enc Tryd.prog Tryd.f6 false true false false) := by
  refine returnsInHanded_of_change_and (C := Tryd.checked) (X := fun w _ => laidMetH Tryd.prog laidL w) (fun _ _ _ hh h => h.of_heap hh) own started (by kernel_rfl) Tryd.func6
    (ChangeSpec.witness_shaped (enc := enc) (C := Tryd.checked) (os := os) (X := fun w _ => laidMetH Tryd.prog laidL w) false (World.doorLaid Tryd.prog 200 os) #[.int .i64 0, .int .i64 0] 8 rfl (World.shaped_of_RefB (by kernel_rfl) (by kernel_rfl)) (by kernel_rfl) (by kernel_rfl) (by kernel_rfl) (door_met os _)) ?_
  intro W base args ds gs before hval0 hW _ _ hL0 _
  have hL := laid_of hL0
  have hval : ∀ (j : Nat) t v, Tryd.f6.params[j]? = some t → args[j]? = some v → Value.okWide Tryd.prog W .any base t v := hval0
  have hW' := hW
  obtain ⟨p, q, hA0, hV, rfl, hfz, hnd⟩ := hW
  have hA : DataW.TrodAll enc Tryd.prog W 0 (fun _ => true) true Tryd.f6.params.toList args.toList ds p := hA0
  rw [Tryd.params6] at hA hval
  obtain ⟨v0, vs0, d0, ds0, p0, q0, hargs, rfl, rfl, h0, r0⟩ := trodAll_cons hA
  obtain ⟨v1, vs1, d1, ds1, p1, q1, rfl, rfl, rfl, h1, r1⟩ := trodAll_cons r0
  obtain ⟨rfl, rfl, rfl⟩ := trodAll_nil r1
  obtain rfl : args = #[v0, v1] := by cases args; simp_all
  obtain ⟨rfl, rfl⟩ := trodVars_none hV
  obtain ⟨a0, rfl, rfl, rfl, w0⟩ := open_int Tryd.underlying3 (hval 0 3 v0 rfl rfl) h0
  obtain ⟨a1, rfl, rfl, rfl, w1⟩ := open_int Tryd.underlying3 (hval 1 3 v1 rfl rfl) h1
  clear hA0 hval0
  simp only [List.append_nil] at hW'
  refine (walk a0 a1 W hL (wf_i64 w0) (wf_i64 w1)).mono fun e W' ⟨he, bel⟩ => ?_
  subst he
  exact ⟨_, rfl, _, _, _, [], _, [], hW', trodAll_mk1 (shut_bool Tryd.underlying4 _), (trodAll_cons_mk (shut_int Tryd.underlying3 w0) (trodAll_cons_mk (shut_int Tryd.underlying3 w1) trodAll_mk0)), rfl, bel.frame _, fun h => by cases h⟩

theorem over : Rows.shapeHoldsRow.holds Tryd.pinned (OpenSpec.ofChange Rows.shapeHoldsSpec) :=
  OpenClaim.holds_of_wide 6 Tryd.f6 rfl rfl rfl rfl rfl rfl rfl ⟨rfl, rfl, rfl, rfl, rfl⟩ rfl rfl rfl rfl rfl (by kernel_rfl) Tryd.func6 (by kernel_rfl)
    (of_decide_eq_true (by kernel_rfl)) (by unfold Func.isWrapper; first | (rw [if_pos (by decide +kernel)]; kernel_rfl) | (rw [if_neg (by decide +kernel)]; exact ⟨rfl, rfl⟩))
    (fun os started H enc _ => lifted os started H enc)

/-- The tied card: the row, and the tie that is given. -/
theorem shapeHolds_holds : Rows.ShapeHoldsCardSaid :=
  Claim7.holds_tied_plain_at .later [] [.data, .data] true _ false over (fun _ h => by cases h) (by kernel_rfl) (fun _ h => by cases h) shapeHolds_row_tie rfl ⟨rfl, rfl⟩ (by kernel_rfl) rfl
    (fun f fn hf hfn => by
      obtain rfl : f = 6 := Option.some.inj ((show Tryd.prog.funcNamed "palisade/palisadelaw04.ShapeHolds" = some 6 by kernel_rfl).symm.trans hf) |>.symm
      obtain rfl : fn = Tryd.f6 := (Option.some.inj (Tryd.func6.symm.trans hfn)).symm
      exact ⟨by kernel_rfl, fun j t ht => by
        rw [Tryd.params6] at ht
        have hm : t ∈ [3, 3] := by simpa using Array.mem_of_getElem? ht
        have hall : ([3, 3].all fun u => !Tryd.prog.wantsStandIn u) = true := by kernel_rfl
        exact (show Tryd.prog.wantsStandIn t = false by simpa using List.all_eq_true.1 hall t hm)⟩)
    (by kernel_rfl)
end Go.Proofs.YthhgalhabdkikaaDoor.shapeHolds
