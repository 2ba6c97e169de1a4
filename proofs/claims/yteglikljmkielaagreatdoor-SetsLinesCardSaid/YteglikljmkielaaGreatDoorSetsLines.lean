/- The law SetsLines answers true for every input and leaves its arguments as they were. -/
import Derived.Test.YteglikljmkielaaGreatDoorSLawKit
import Derived.Test.YteglikljmkielaaGreatDoorCards
import Derived.Test.YteglikljmkielaaGreatDoorTie
import Derived.SevenTiedAt
import Derived.Test.YteglikljmkielaaGreatDoorZG1
import Derived.Test.YteglikljmkielaaGreatDoorZlN
namespace Go.Proofs.YteglikljmkielaaGreatDoor.setsLines
open Go.ChangeShapes Go.WideShapes Go.ChangeAt Go.RowKit Go.Shelf
set_option linter.unusedVariables false
set_option linter.unusedSimpArgs false
attribute [local go_sem] Oper.semAt_some

/-- What lies in memory: the code, the two places, how many, the answer, what is wanted. -/
structure Facts (V : World) (B0 : Nat) (k p a1 a2 b1 b2 many : Int) (wv : Value) (zs : List (Int × Int)) : Prop where
  b0 : Blk V B0 24 #[.int .i64 k, .int .i64 p]
  a : Blk V (B0 + 1) 26 #[.int .i64 a1, .int .i64 a2]
  b : Blk V (B0 + 1 + 1) 26 #[.int .i64 b1, .int .i64 b2]
  m : Blk V (B0 + 1 + 1 + 1) 3 #[.int .i64 many]
  r : Blk V (B0 + 1 + 1 + 1 + 1) 4 #[.bool false]
  q : Blk V (B0 + 1 + 1 + 1 + 1 + 1) 27 #[wv]
  rd : ReadA V wv zs
  hL : Laid V
theorem Facts.next {V V' : World} {B0 : Nat} {k p a1 a2 b1 b2 many : Int} {wv : Value} {zs : List (Int × Int)} (h : Facts V B0 k p a1 a2 b1 b2 many wv zs) (hB : Below V.heap.size V V') : Facts V' B0 k p a1 a2 b1 b2 many wv zs :=
  ⟨h.b0.below hB h.b0.lt, h.a.below hB h.a.lt, h.b.below hB h.b.lt, h.m.below hB h.m.lt, h.r.below hB h.r.lt, h.q.below hB h.q.lt, h.rd.next hB, h.hL.next hB⟩
/-- What a loop keeps: how many have come. -/
def Told (nb : Nat) (V : World) (pre : List ((Int × Int) × Value)) (W : World) : Prop := Blk W nb 3 #[.int .i64 (pre.length : Int)] ∧ Below V.heap.size V W
theorem told_grown {B nb : Nat} {V X Y : World} {pre : List ((Int × Int) × Value)} {row : Option Nat} {o : Option Nat} (h : Told nb V pre X) (hn : nb < B) (hV : V.heap.size ≤ B) (hg : X.grownBy Y row) (hr : ∀ r, row = some r → B ≤ r ∧ some r ≠ o) : Told nb V pre Y :=
  ⟨h.1.grown hg (fun e => by have := (hr nb e.symm).1; omega), h.2.grown hg h.2.size (fun r e => by have := (hr r e).1; omega)⟩
set_option maxRecDepth 100000 in
set_option maxHeartbeats 4000000 in
theorem main_yes (k p a1 a2 b1 b2 many : Int) (w : World) (hL : Laid w) (wm : -9223372036854775808 ≤ many ∧ many ≤ 9223372036854775807) (hp : p ≤ 11) (hR : RightC k p) :
    Calls Tryz.prog 5 #[.agg #[.int .i64 k, .int .i64 p], .agg #[.int .i64 a1, .int .i64 a2], .agg #[.int .i64 b1, .int .i64 b2], .int .i64 many] w fun e w' => e = .returned (.bool true) ∧ Below w.heap.size w w' := by
  have hpd : decide (11 < p) = false := decide_eq_false (by omega)
  have HQ := Lib.hid (fun W => (refRight_any k p W).mono fun _ _ h => And.intro (h.1 hR) h.2.2)
  have HPa := Lib.hid (fun W => refParity_any k p hR W)
  have HLi := Lib.hid (fun W hL => setsLines_yes k p hR W hL)
  have hel : (∀ z ∈ flatC p (spanL (p - shortN k) (p - shortN k + madeN k)), HasCell k p z.1 z.2 ∧ p - shortN k ≤ z.1) := fun z hz => by
    obtain ⟨q1, q2, q3, q4, q5, q6⟩ := hR.und
    obtain ⟨h3, h4⟩ := flatC_mem' hz
    have h5 := spanL_mem h3
    exact ⟨⟨⟨by omega, h5.2⟩, h4⟩, h5.1⟩
  have HRM : Hid (∀ z ∈ flatC p (spanL (p - shortN k) (p - shortN k + madeN k)), ∀ W, Calls Tryz.prog 15 #[.agg #[.int .i64 k, .int .i64 p], .agg #[.int .i64 z.1, .int .i64 z.2]] W fun e w' => ∃ v, e = .returned v ∧ OwnA w' W.heap.size v (memL k p z.1 z.2) ∧ Below W.heap.size W w') := fun z hz W => refMembers_any k p z.1 z.2 hR (hel z hz).1 (hel z hz).2 W
  have HMl : Hid (∀ z ∈ flatC p (spanL (p - shortN k) (p - shortN k + madeN k)), (memL k p z.1 z.2).length ≤ 1000) := fun z hz => memL_len hR (hel z hz).1
  clear hel
  have hzl : (flatC p (spanL (p - shortN k) (p - shortN k + madeN k))).length ≤ 100 := by
    have h2 := flatC_len p hR.2 (spanL (p - shortN k) (p - shortN k + madeN k))
    rw [spanL_len] at h2
    have := hR.und.m2
    omega
  generalize flatC p (spanL (p - shortN k) (p - shortN k + madeN k)) = zs at *
  clear hR hp
  obtain ⟨W6, hW6⟩ : ∃ W6, (((((w.alloc (.cells #[.int .i64 k, .int .i64 p] 24)).alloc (.cells #[.int .i64 a1, .int .i64 a2] 26)).alloc (.cells #[.int .i64 b1, .int .i64 b2] 26)).alloc (.cells #[.int .i64 many] 3)).alloc (.cells #[.bool false] 4)).alloc (.cells #[.slice none 0 0] 27) = W6 := ⟨_, rfl⟩
  have k0 : Blk W6 (w.heap.size) 24 #[.int .i64 k, .int .i64 p] := by
    rw [← hW6]
    have := Blk.new w 24 #[.int .i64 k, .int .i64 p]
    exact (((((this.alloc (.cells #[.int .i64 a1, .int .i64 a2] 26)).alloc (.cells #[.int .i64 b1, .int .i64 b2] 26)).alloc (.cells #[.int .i64 many] 3)).alloc (.cells #[.bool false] 4)).alloc (.cells #[.slice none 0 0] 27))
  have k1 : Blk W6 (w.heap.size + 1) 26 #[.int .i64 a1, .int .i64 a2] := by
    rw [← hW6]
    have := Blk.new (w.alloc (.cells #[.int .i64 k, .int .i64 p] 24)) 26 #[.int .i64 a1, .int .i64 a2]
    rw [World.size_alloc] at this
    exact ((((this.alloc (.cells #[.int .i64 b1, .int .i64 b2] 26)).alloc (.cells #[.int .i64 many] 3)).alloc (.cells #[.bool false] 4)).alloc (.cells #[.slice none 0 0] 27))
  have k2 : Blk W6 (w.heap.size + 1 + 1) 26 #[.int .i64 b1, .int .i64 b2] := by
    rw [← hW6]
    have := Blk.new ((w.alloc (.cells #[.int .i64 k, .int .i64 p] 24)).alloc (.cells #[.int .i64 a1, .int .i64 a2] 26)) 26 #[.int .i64 b1, .int .i64 b2]
    rw [World.size_alloc, World.size_alloc] at this
    exact (((this.alloc (.cells #[.int .i64 many] 3)).alloc (.cells #[.bool false] 4)).alloc (.cells #[.slice none 0 0] 27))
  have k3 : Blk W6 (w.heap.size + 1 + 1 + 1) 3 #[.int .i64 many] := by
    rw [← hW6]
    have := Blk.new (((w.alloc (.cells #[.int .i64 k, .int .i64 p] 24)).alloc (.cells #[.int .i64 a1, .int .i64 a2] 26)).alloc (.cells #[.int .i64 b1, .int .i64 b2] 26)) 3 #[.int .i64 many]
    rw [World.size_alloc, World.size_alloc, World.size_alloc] at this
    exact ((this.alloc (.cells #[.bool false] 4)).alloc (.cells #[.slice none 0 0] 27))
  have k4 : Blk W6 (w.heap.size + 1 + 1 + 1 + 1) 4 #[.bool false] := by
    rw [← hW6]
    have := Blk.new ((((w.alloc (.cells #[.int .i64 k, .int .i64 p] 24)).alloc (.cells #[.int .i64 a1, .int .i64 a2] 26)).alloc (.cells #[.int .i64 b1, .int .i64 b2] 26)).alloc (.cells #[.int .i64 many] 3)) 4 #[.bool false]
    rw [World.size_alloc, World.size_alloc, World.size_alloc, World.size_alloc] at this
    exact (this.alloc (.cells #[.slice none 0 0] 27))
  have k5 : Blk W6 (w.heap.size + 1 + 1 + 1 + 1 + 1) 27 #[.slice none 0 0] := by
    rw [← hW6]
    have := Blk.new (((((w.alloc (.cells #[.int .i64 k, .int .i64 p] 24)).alloc (.cells #[.int .i64 a1, .int .i64 a2] 26)).alloc (.cells #[.int .i64 b1, .int .i64 b2] 26)).alloc (.cells #[.int .i64 many] 3)).alloc (.cells #[.bool false] 4)) 27 #[.slice none 0 0]
    rw [World.size_alloc, World.size_alloc, World.size_alloc, World.size_alloc, World.size_alloc] at this
    exact this
  have hB : Below w.heap.size w W6 := by rw [← hW6]; exact ((((below_two w _ _).alloc (by simp; omega) _).alloc (by simp; omega) _).alloc (by simp; omega) _).alloc (by simp; omega) _
  replace hL := hL.next hB
  have c0 := k0.cell 0
  have c1 := k0.cell 1
  simp only [List.getElem?_toArray, List.getElem?_cons_zero, List.getElem?_cons_succ] at c0 c1
  refine (callsIn_wide (n := 20)).1 ?_
  refine callsIn_of_wp_marks Tryz.func5 rfl trivial ?_ rfl
  simp only [Tryz.ntmps5, List.size_toArray, List.length_cons, List.length_nil, Nat.reduceAdd, Nat.reduceSub, Array.replicate_succ, Array.replicate_zero, List.push_toArray, List.append_toArray, List.nil_append, List.cons_append]
  refine wpIn_wide.2 ?_
  go_wp2_with fail
  try rw [hW6]
  clear hW6
  refine (HQ.out _).mono ?_
  rintro e w1 ⟨rfl, hB1⟩
  replace hL := hL.next hB1
  replace k0 := k0.below hB1 k0.lt; replace k1 := k1.below hB1 k1.lt; replace k2 := k2.below hB1 k2.lt; replace k3 := k3.below hB1 k3.lt; replace k4 := k4.below hB1 k4.lt; replace k5 := k5.below hB1 k5.lt
  replace hB := below_in hB hB1
  clear hB1 c0 c1 HQ
  have c0 := k0.cell 0
  have c1 := k0.cell 1
  simp only [List.getElem?_toArray, List.getElem?_cons_zero, List.getElem?_cons_succ] at c0 c1
  go_wp2_with fail
  refine (HPa.out _).mono ?_
  rintro e w2 ⟨wv, rfl, ho, hB1⟩
  obtain ⟨wq, wcap, rfl⟩ : ∃ wq wcap, wv = .slice wq zs.length wcap := by obtain ⟨a, b, e, _⟩ := ho.readA; exact ⟨a, b, e⟩
  have hne5 := ho.ne (g := w.heap.size + 1 + 1 + 1 + 1 + 1) k5.lt
  have hrd := (OwnA.far ho (p := ⟨w.heap.size + 1 + 1 + 1 + 1 + 1, 0, none⟩) hne5 (.slice wq zs.length wcap)).readA
  replace hL := hL.next hB1
  replace k0 := k0.below hB1 k0.lt; replace k1 := k1.below hB1 k1.lt; replace k2 := k2.below hB1 k2.lt; replace k3 := k3.below hB1 k3.lt; replace k4 := k4.below hB1 k4.lt; replace k5 := k5.below hB1 k5.lt
  replace hB := below_in hB hB1
  clear hB1 c0 c1 HPa
  have f5 := k5.frozen 0
  have c5 := k5.cell 0
  simp only [List.getElem?_toArray, List.getElem?_cons_zero, List.getElem?_cons_succ] at c5
  have hf5 : Below (w.heap.size + 1 + 1 + 1 + 1 + 1) w2 (w2.setCell ⟨w.heap.size + 1 + 1 + 1 + 1 + 1, 0, none⟩ (.slice wq zs.length wcap)) := by exact (Below.refl _ w2).setCell (by simp) _
  have F : Facts (w2.setCell ⟨w.heap.size + 1 + 1 + 1 + 1 + 1, 0, none⟩ (.slice wq zs.length wcap)) w.heap.size k p a1 a2 b1 b2 many (.slice wq zs.length wcap) zs := by
    refine ⟨k0.below hf5 (by omega), k1.below hf5 (by omega), k2.below hf5 (by omega), k3.below hf5 (by omega), k4.below hf5 (by omega), k5.set_ 0 _, ?_, ?_⟩
    · exact hrd
    · exact ⟨hL.1.below hf5 (by have := hL.pos; omega), hL.2.below hf5 (by have := hL.pos; omega)⟩
  have c0 := F.b0.cell 0
  have c1 := F.b0.cell 1
  simp only [List.getElem?_toArray, List.getElem?_cons_zero, List.getElem?_cons_succ] at c0 c1
  replace hB : Below w.heap.size w (w2.setCell ⟨w.heap.size + 1 + 1 + 1 + 1 + 1, 0, none⟩ (.slice wq zs.length wcap)) := by exact hB.setCell (by simp; omega) _
  go_wp2_with fail
  refine (HLi.out _ F.hL).mono ?_
  clear c0 c1 c5 f5 k0 k1 k2 k3 k4 k5 hf5 hrd ho hne5 hL HLi
  generalize w2.setCell ⟨w.heap.size + 1 + 1 + 1 + 1 + 1, 0, none⟩ (.slice wq zs.length wcap) = W6 at *
  rintro e w7 ⟨v, rfl, ⟨gf, pa, lb, rfl, eg, eq, hg⟩, hB7⟩
  have hs6 := hB7.size
  have F7 := F.next hB7
  have hB6 := below_in hB hB7
  clear F hB
  go_wp2_with fail
  obtain ⟨V0, hV0⟩ : ∃ V0, w7.alloc (.cells #[.int .i64 0] 3) = V0 := ⟨_, rfl⟩
  have hB70 : Below w7.heap.size w7 V0 := by rw [← hV0]; exact below_one w7 _
  have ct0 : Blk V0 w7.heap.size 3 #[.int .i64 0] := by rw [← hV0]; exact Blk.new _ _ _
  have F0 := F7.next hB70
  have hW0 := below_in hB6 hB70
  have hs7 : w7.heap.size < V0.heap.size := ct0.lt
  have hL7 := F7.hL
  rw [hV0]
  clear hV0 F7 hB6
  refine (wpIn_wide (n := 20)).1 ?_
  refine loop_left [11, 12, 26, 27, 28, 29, 30, 31, 32, 64, 65, 66, 67, 68, 69, 70, 71, 72, 73, 74, 75, 76, 77, 78, 79, 80, 81, 82, 83, 84, 85] (fun m vs Ds V => ∃ (t Bt : Nat) (y12 y26 y27 y28 y29 y30 y31 y32 y64 y65 y66 y67 y68 y69 y70 y71 y72 y73 y74 y75 y76 y77 y78 y79 y80 y81 y82 y83 y84 y85 : Value), vs = [.pointer (some ⟨Bt, 0, none⟩), y12, y26, y27, y28, y29, y30, y31, y32, y64, y65, y66, y67, y68, y69, y70, y71, y72, y73, y74, y75, y76, y77, y78, y79, y80, y81, y82, y83, y84, y85] ∧ t + m = 2 ∧ w7.heap.size ≤ Bt ∧ Blk V Bt 3 #[.int .i64 (t : Int)] ∧ Facts V w.heap.size k p a1 a2 b1 b2 many (.slice wq zs.length wcap) zs ∧ Left w.heap.size V Ds ∧ Below V0.heap.size V0 V) 2
    [.pointer (some ⟨w7.heap.size, 0, none⟩), undef, undef, undef, undef, undef, undef, undef, undef, undef, undef, undef, undef, undef, undef, undef, undef, undef, undef, undef, undef, undef, undef, undef, undef, undef, undef, undef, undef, undef, undef] (by kernel_rfl) ⟨0, w7.heap.size, _, _, _, _, _, _, _, _, _, _, _, _, _, _, _, _, _, _, _, _, _, _, _, _, _, _, _, _, _, _, rfl, rfl, Nat.le_refl _, ct0, F0, Left.nil _ _, Below.refl _ _⟩ ?_
  clear F0 ct0
  rintro m vs Ds V ⟨t, Bt, y12, y26, y27, y28, y29, y30, y31, y32, y64, y65, y66, y67, y68, y69, y70, y71, y72, y73, y74, y75, y76, y77, y78, y79, y80, y81, y82, y83, y84, y85, rfl, htm, hBt, ct, F, hLeft, hBV⟩ K hK
  simp only [sets, List.setIfInBounds_toArray, List.set_cons_zero, List.set_cons_succ]
  have hs0 := hBV.size
  have hW := below_in hW0 hBV
  have ctx := ct.one
  have l1 := F.b0.lt
  have l2 := F.a.lt
  have l3 := F.b.lt
  have l4 := F.m.lt
  have l5 := F.r.lt
  have l6 := F.q.lt
  have lt := ct.lt
  obtain rfl | rfl | rfl : t = 0 ∨ t = 1 ∨ t = 2 := by omega
  · gi_wp2_with fail
    have hnb : Blk (V.alloc (.cells #[.int .i64 0] 3)) V.heap.size 3 #[.int .i64 (([] : List ((Int × Int) × Value)).length : Int)] := Blk.new _ _ _
    refine wpIn_rangeBoxB rfl (by omega) (gf := gf) (pa := pa) (lb := lb) rfl trivial eg (hg 19 (by omega)) (fun h h' => h.trans h') (fun W l o hl _ hlp => ⟨Keep.putFar W (by simp at hl; omega) o, fun h => laid_put h hlp o⟩) (below_in (below_in hB70 hBV) (below_one V _)) (fun _ => rfl)
      (fun pre o W => o = none ∧ (pre.map (·.1) <+: zs ∧ (pre.length = 0 ∨ (pre.length : Int) < many)) ∧ Told V.heap.size V pre W)
      (fun c pre o W => o = none ∧ ((c = .ret ∧ ¬ (pre.map (·.1) <+: zs)) ∨ ((c = .exit 2 ∧ 1 ≤ pre.length ∧ (pre.length = 1 ∨ (pre.length : Int) - 1 < many) ∧ many ≤ (pre.length : Int) ∧ pre.map (·.1) <+: zs) ∧ Told V.heap.size V pre W)))
      ?hI_0 ?hIx_0 none (fun b e => by cases e) ⟨rfl, ⟨List.nil_prefix, .inl rfl⟩, hnb, below_one V _⟩
      (fun x W => LineOk k p zs x W) (fun x W l ob hl h => by obtain ⟨r, hr⟩ := hl; exact LineOk.put hr h) 26 (fun x : (Int × Int) × Value => #[.int .i64 x.1.1, .int .i64 x.1.2]) ?a1_0
      ?assign_0 (fun pre o W h => by rw [h.1]; exact rowO_none W) (fun c pre o W h => by rw [h.1]; exact rowO_none W) ?body_0 ?done_0 ?stop_0
    case hI_0 =>
      rintro s o X Y row ⟨rfl, hp, ht⟩ hgr hr
      exact ⟨rfl, hp, told_grown ht (by simp) (by simp) hgr hr⟩
    case hIx_0 =>
      rintro c s o X Y row ⟨rfl, h⟩ hgr hr
      exact ⟨rfl, h.imp id fun h => ⟨h.1, told_grown h.2 (by simp) (by simp) hgr hr⟩⟩
    case assign_0 =>
      rintro l' pre x o W K hsz hol ⟨rfl, hp, hn, hB⟩ hok hK
      gi_wp2
      have hbx := Blk.new W 26 #[.int .i64 x.1.1, .int .i64 x.1.2]
      have hBz := below_one W (.cells #[.int .i64 x.1.1, .int .i64 x.1.2] 26)
      have hsn := hn.lt
      have hSi : SinceO (V.alloc (.cells #[.int .i64 0] 3)).heap.size none W (W.alloc (.cells #[.int .i64 x.1.1, .int .i64 x.1.2] 26)) := SinceO.below hBz
      have hKe : KeepL W6.heap.size (w7.heap.size - W6.heap.size) W (W.alloc (.cells #[.int .i64 x.1.1, .int .i64 x.1.2] 26)) := ⟨Keep.alloc (by omega) _, fun h => h.next hBz⟩
      have hTo : Told V.heap.size V pre (W.alloc (.cells #[.int .i64 x.1.1, .int .i64 x.1.2] 26)) := ⟨hn.alloc _, hB.alloc hB.size _⟩
      have hok2 : LineOk k p zs x (W.alloc (.cells #[.int .i64 x.1.1, .int .i64 x.1.2] 26)) := ⟨hok.1, hok.2.next hBz⟩
      clear hBz hok
      generalize W.alloc (.cells #[.int .i64 x.1.1, .int .i64 x.1.2] 26) = W' at *
      generalize W.heap.size = Bx at *
      exact hK Bx W' hSi hKe ⟨by first | rfl | trivial, hp, hTo⟩ hbx (by simp) hsz hok2
    case body_0 =>
      rintro l' pre x o Bx W hsz ⟨rfl, ⟨hpre, hcnd⟩, hn, hB⟩ hbx hne hle hok hlt
      obtain ⟨⟨zx, zy⟩, zv⟩ := x
      simp only at hbx
      have hple := hpre.length_le
      rw [List.length_map] at hple
      have cn := hn.one
      have fn := hn.frozen 0
      have cq := (F.q.below hB F.q.lt).one
      have cty := (ct.below hB ct.lt).one
      have cmx := (F.m.below hB F.m.lt).one
      have crx := (F.r.below hB F.r.lt).one
      have frx := (F.r.below hB F.r.lt).frozen 0
      have c0 := (F.b0.below hB F.b0.lt).cell 0
      have c1 := (F.b0.below hB F.b0.lt).cell 1
      have z0 := hbx.cell 0
      have z1 := hbx.cell 1
      simp only [List.getElem?_toArray, List.getElem?_cons_zero, List.getElem?_cons_succ] at c0 c1 z0 z1
      have hbs := hB.size
      have hX := Below.refl W.heap.size W
      rcases Nat.lt_or_ge pre.length zs.length with hlz | hlz
      · have dp : decide ((zs.length : Int) ≤ (pre.length : Int)) = false := decide_eq_false (by omega)
        obtain ⟨gq, rfl, hgq, q0, q1⟩ : ∃ gq, wq = some ⟨gq, 0, none⟩ ∧ gq < V.heap.size ∧ V.cell? ⟨gq, pre.length * 2, none⟩ = some (.int .i64 (zs[pre.length]).1) ∧ V.cell? ⟨gq, pre.length * 2 + 1, none⟩ = some (.int .i64 (zs[pre.length]).2) := by obtain ⟨pq, cq2, e, hc⟩ := F.rd; obtain ⟨g2, e2, h1, h2, h3⟩ := hc _ hlz; injection e with e3 _ _; exact ⟨g2, e3.trans e2, h1, h2, h3⟩
        replace q0 := nextc q0 hB
        replace q1 := nextc q1 hB
        have i1 : (0 : Int) ≤ (pre.length : Int) := by omega
        have i2 : (pre.length : Int) < (zs.length : Int) := by omega
        have hpe := fun h => prefix_elem (x := ((zx, zy), zv)) hpre hlz h
        have hpn := fun (h : ((zx, zy) : Int × Int) ≠ zs[pre.length]) => prefix_not (x := ((zx, zy), zv)) (zs := zs) (pre := pre) (fun _ => h)
        generalize zs[pre.length] = z at *
        obtain ⟨qx, qy⟩ := z
        simp only at q0 q1 hpe
        by_cases ex : zx = qx
        · subst ex
          by_cases ey : zy = qy
          · subst ey
            have HPE := Lib.hid (hpe rfl)
            clear hpe hpn
            have hzm := hok.1
            have HRMz := Lib.hid (HRM.out (zx, zy) hzm)
            have hln := HMl.out (zx, zy) hzm
            have hrd := hok.2.readA
            simp only at HRMz hln hrd
            clear hok hzm
            generalize memL k p zx zy = ml at *
            gi_wp2_with fail
            have hS : (fun U : World => U.cell? ⟨V.heap.size, 0, none⟩ = some (.int .i64 (pre.length : Int)) ∧ U.cell? ⟨w.heap.size + 1 + 1 + 1 + 1 + 1, 0, none⟩ = some (.slice (some ⟨gq, 0, none⟩) zs.length wcap) ∧ U.cell? ⟨Bx, 0, none⟩ = some (.int .i64 zx) ∧ U.cell? ⟨Bx, 1, none⟩ = some (.int .i64 zy) ∧ U.cell? ⟨w.heap.size, 0, none⟩ = some (.int .i64 k) ∧ U.cell? ⟨w.heap.size, 1, none⟩ = some (.int .i64 p) ∧ U.cell? ⟨gq, pre.length * 2, none⟩ = some (.int .i64 zx) ∧ U.cell? ⟨gq, pre.length * 2 + 1, none⟩ = some (.int .i64 zy)) W.drew := ⟨cn, cq, z0, z1, c0, c1, q0, q1⟩
            refine region_HF (S := (fun U : World => U.cell? ⟨V.heap.size, 0, none⟩ = some (.int .i64 (pre.length : Int)) ∧ U.cell? ⟨w.heap.size + 1 + 1 + 1 + 1 + 1, 0, none⟩ = some (.slice (some ⟨gq, 0, none⟩) zs.length wcap) ∧ U.cell? ⟨Bx, 0, none⟩ = some (.int .i64 zx) ∧ U.cell? ⟨Bx, 1, none⟩ = some (.int .i64 zy) ∧ U.cell? ⟨w.heap.size, 0, none⟩ = some (.int .i64 k) ∧ U.cell? ⟨w.heap.size, 1, none⟩ = some (.int .i64 p) ∧ U.cell? ⟨gq, pre.length * 2, none⟩ = some (.int .i64 zx) ∧ U.cell? ⟨gq, pre.length * 2 + 1, none⟩ = some (.int .i64 zy))) (by kernel_rfl) ?_
            refine anyHF_take (i := 0) (d := 35) (v := .int .i64 (pre.length : Int)) (by kernel_rfl) rfl (by kernel_rfl) (by kernel_rfl) (by kernel_rfl) rfl (fun _ _ _ h => h) ⟨Or.inl ⟨by rfl, fun w hS => by obtain ⟨h0, h1, h2, h3, h4, h5, h6, h7⟩ := hS; go_simp⟩, fun _ => rfl⟩ hS ?_
            simp only [List.setIfInBounds_toArray, List.set_cons_zero, List.set_cons_succ]
            refine anyHF_take (i := 1) (d := 36) (v := .slice (some ⟨gq, 0, none⟩) zs.length wcap) (by kernel_rfl) rfl (by kernel_rfl) (by kernel_rfl) (by kernel_rfl) rfl (fun _ _ _ h => h) ⟨Or.inl ⟨by rfl, fun w hS => by obtain ⟨h0, h1, h2, h3, h4, h5, h6, h7⟩ := hS; go_simp⟩, fun _ => rfl⟩ hS ?_
            simp only [List.setIfInBounds_toArray, List.set_cons_zero, List.set_cons_succ]
            refine anyHF_one (i := 2) (by kernel_rfl) rfl (by kernel_rfl) (by rfl) ?_
            gi_wp2
            refine anyHF_take (i := 3) (d := 38) (v := .bool false) (by kernel_rfl) rfl (by kernel_rfl) (by kernel_rfl) (by kernel_rfl) rfl (fun _ _ _ h => h) ⟨Or.inl ⟨by rfl, fun w hS => by obtain ⟨h0, h1, h2, h3, h4, h5, h6, h7⟩ := hS; go_simp⟩, fun _ => rfl⟩ hS ?_
            simp only [List.setIfInBounds_toArray, List.set_cons_zero, List.set_cons_succ]
            refine anyHF_take (i := 4) (d := 39) (v := .bool false) (by kernel_rfl) rfl (by kernel_rfl) (by kernel_rfl) (by kernel_rfl) rfl (fun _ _ _ h => h) ⟨Or.inl ⟨by rfl, fun w hS => by obtain ⟨h0, h1, h2, h3, h4, h5, h6, h7⟩ := hS; go_simp⟩, fun _ => rfl⟩ hS ?_
            simp only [List.setIfInBounds_toArray, List.set_cons_zero, List.set_cons_succ]
            refine anyHF_take (i := 5) (d := 40) (v := .agg #[.int .i64 zx, .int .i64 zy]) (by kernel_rfl) rfl (by kernel_rfl) (by kernel_rfl) (by kernel_rfl) rfl (fun _ _ _ h => h) ⟨Or.inl ⟨by rfl, fun w hS => by obtain ⟨h0, h1, h2, h3, h4, h5, h6, h7⟩ := hS; go_simp⟩, fun _ => rfl⟩ hS ?_
            simp only [List.setIfInBounds_toArray, List.set_cons_zero, List.set_cons_succ]
            refine anyHF_take (i := 6) (d := 41) (v := .slice (some ⟨gq, 0, none⟩) zs.length wcap) (by kernel_rfl) rfl (by kernel_rfl) (by kernel_rfl) (by kernel_rfl) rfl (fun _ _ _ h => h) ⟨Or.inl ⟨by rfl, fun w hS => by obtain ⟨h0, h1, h2, h3, h4, h5, h6, h7⟩ := hS; go_simp⟩, fun _ => rfl⟩ hS ?_
            simp only [List.setIfInBounds_toArray, List.set_cons_zero, List.set_cons_succ]
            refine anyHF_take (i := 7) (d := 42) (v := .int .i64 (pre.length : Int)) (by kernel_rfl) rfl (by kernel_rfl) (by kernel_rfl) (by kernel_rfl) rfl (fun _ _ _ h => h) ⟨Or.inl ⟨by rfl, fun w hS => by obtain ⟨h0, h1, h2, h3, h4, h5, h6, h7⟩ := hS; go_simp⟩, fun _ => rfl⟩ hS ?_
            simp only [List.setIfInBounds_toArray, List.set_cons_zero, List.set_cons_succ]
            refine anyHF_take (i := 8) (d := 43) (v := .pointer (some ⟨gq, pre.length * 2, none⟩)) (by kernel_rfl) rfl (by kernel_rfl) (by kernel_rfl) (by kernel_rfl) rfl (fun _ _ _ h => h) ⟨Or.inl ⟨by rfl, fun w hS => by obtain ⟨h0, h1, h2, h3, h4, h5, h6, h7⟩ := hS; go_simp⟩, fun _ => rfl⟩ hS ?_
            simp only [List.setIfInBounds_toArray, List.set_cons_zero, List.set_cons_succ]
            refine anyHF_take (i := 9) (d := 44) (v := .agg #[.int .i64 zx, .int .i64 zy]) (by kernel_rfl) rfl (by kernel_rfl) (by kernel_rfl) (by kernel_rfl) rfl (fun _ _ _ h => h) ⟨Or.inl ⟨by rfl, fun w hS => by obtain ⟨h0, h1, h2, h3, h4, h5, h6, h7⟩ := hS; go_simp⟩, fun _ => rfl⟩ hS ?_
            simp only [List.setIfInBounds_toArray, List.set_cons_zero, List.set_cons_succ]
            refine anyHF_take (i := 10) (d := 45) (v := .bool false) (by kernel_rfl) rfl (by kernel_rfl) (by kernel_rfl) (by kernel_rfl) rfl (fun _ _ _ h => h) ⟨Or.inl ⟨by rfl, fun w hS => by obtain ⟨h0, h1, h2, h3, h4, h5, h6, h7⟩ := hS; go_simp⟩, fun _ => rfl⟩ hS ?_
            simp only [List.setIfInBounds_toArray, List.set_cons_zero, List.set_cons_succ]
            refine anyHF_take (i := 11) (d := 46) (v := .bool false) (by kernel_rfl) rfl (by kernel_rfl) (by kernel_rfl) (by kernel_rfl) rfl (fun _ _ _ h => h) ⟨Or.inl ⟨by rfl, fun w hS => by obtain ⟨h0, h1, h2, h3, h4, h5, h6, h7⟩ := hS; go_simp⟩, fun _ => rfl⟩ hS ?_
            simp only [List.setIfInBounds_toArray, List.set_cons_zero, List.set_cons_succ]
            refine anyHF_take (i := 12) (d := 47) (v := .bool false) (by kernel_rfl) rfl (by kernel_rfl) (by kernel_rfl) (by kernel_rfl) rfl (fun _ _ _ h => h) ⟨Or.inl ⟨by rfl, fun w hS => by obtain ⟨h0, h1, h2, h3, h4, h5, h6, h7⟩ := hS; go_simp⟩, fun _ => rfl⟩ hS ?_
            simp only [List.setIfInBounds_toArray, List.set_cons_zero, List.set_cons_succ]
            refine anyHF_take (i := 13) (d := 48) (v := zv) (by kernel_rfl) rfl (by kernel_rfl) (by kernel_rfl) (by kernel_rfl) rfl (fun _ _ _ h => h) ⟨Or.inl ⟨by rfl, fun w hS => by obtain ⟨h0, h1, h2, h3, h4, h5, h6, h7⟩ := hS; go_simp⟩, fun _ => rfl⟩ hS ?_
            simp only [List.setIfInBounds_toArray, List.set_cons_zero, List.set_cons_succ]
            refine anyHF_take (i := 14) (d := 49) (v := .agg #[.int .i64 k, .int .i64 p]) (by kernel_rfl) rfl (by kernel_rfl) (by kernel_rfl) (by kernel_rfl) rfl (fun _ _ _ h => h) ⟨Or.inl ⟨by rfl, fun w hS => by obtain ⟨h0, h1, h2, h3, h4, h5, h6, h7⟩ := hS; go_simp⟩, fun _ => rfl⟩ hS ?_
            simp only [List.setIfInBounds_toArray, List.set_cons_zero, List.set_cons_succ]
            refine anyHF_take (i := 15) (d := 50) (v := .agg #[.int .i64 zx, .int .i64 zy]) (by kernel_rfl) rfl (by kernel_rfl) (by kernel_rfl) (by kernel_rfl) rfl (fun _ _ _ h => h) ⟨Or.inl ⟨by rfl, fun w hS => by obtain ⟨h0, h1, h2, h3, h4, h5, h6, h7⟩ := hS; go_simp⟩, fun _ => rfl⟩ hS ?_
            simp only [List.setIfInBounds_toArray, List.set_cons_zero, List.set_cons_succ]
            refine anyHF_one (i := 16) (by kernel_rfl) rfl (by kernel_rfl) (by rfl) ?_
            gi_wp2_with fail
            refine ⟨trivial, (CallsIn.inRound l' (callsIn_wide.2 (HRMz.out _))).mono ?_⟩
            rintro e X2 ⟨v2, rfl, ho2, hB2⟩
            replace hB2 := below_undrew hB2
            have hX2 := below_in hX hB2
            replace hX := hX2
            clear hX2 hS
            replace cn := nextc cn hB2
            replace cq := nextc cq hB2
            replace z0 := nextc z0 hB2
            replace z1 := nextc z1 hB2
            replace c0 := nextc c0 hB2
            replace c1 := nextc c1 hB2
            replace q0 := nextc q0 hB2
            replace q1 := nextc q1 hB2
            have hr2 := ho2.readA
            replace hrd := hrd.next hB2
            clear ho2 HRMz
            have hS : (fun U : World => U.cell? ⟨V.heap.size, 0, none⟩ = some (.int .i64 (pre.length : Int)) ∧ U.cell? ⟨w.heap.size + 1 + 1 + 1 + 1 + 1, 0, none⟩ = some (.slice (some ⟨gq, 0, none⟩) zs.length wcap) ∧ U.cell? ⟨Bx, 0, none⟩ = some (.int .i64 zx) ∧ U.cell? ⟨Bx, 1, none⟩ = some (.int .i64 zy) ∧ U.cell? ⟨w.heap.size, 0, none⟩ = some (.int .i64 k) ∧ U.cell? ⟨w.heap.size, 1, none⟩ = some (.int .i64 p) ∧ U.cell? ⟨gq, pre.length * 2, none⟩ = some (.int .i64 zx) ∧ U.cell? ⟨gq, pre.length * 2 + 1, none⟩ = some (.int .i64 zy)) _ := ⟨cn, cq, z0, z1, c0, c1, q0, q1⟩
            gi_wp2
            refine anyHF_one (i := 17) (by kernel_rfl) rfl (by kernel_rfl) (by rfl) ?_
            gi_wp2_with fail
            refine ⟨trivial, (CallsIn.inRound l' (callsIn_wide.2 (same_yes _ _ ml hln _ hrd hr2))).mono ?_⟩
            rintro e X3 ⟨rfl, hB2⟩
            have hX2 := below_in hX hB2
            replace hX := hX2
            clear hX2 hS
            replace cn := nextc cn hB2
            replace cq := nextc cq hB2
            replace z0 := nextc z0 hB2
            replace z1 := nextc z1 hB2
            replace c0 := nextc c0 hB2
            replace c1 := nextc c1 hB2
            replace q0 := nextc q0 hB2
            replace q1 := nextc q1 hB2
            clear hrd hr2
            have hS : (fun U : World => U.cell? ⟨V.heap.size, 0, none⟩ = some (.int .i64 (pre.length : Int)) ∧ U.cell? ⟨w.heap.size + 1 + 1 + 1 + 1 + 1, 0, none⟩ = some (.slice (some ⟨gq, 0, none⟩) zs.length wcap) ∧ U.cell? ⟨Bx, 0, none⟩ = some (.int .i64 zx) ∧ U.cell? ⟨Bx, 1, none⟩ = some (.int .i64 zy) ∧ U.cell? ⟨w.heap.size, 0, none⟩ = some (.int .i64 k) ∧ U.cell? ⟨w.heap.size, 1, none⟩ = some (.int .i64 p) ∧ U.cell? ⟨gq, pre.length * 2, none⟩ = some (.int .i64 zx) ∧ U.cell? ⟨gq, pre.length * 2 + 1, none⟩ = some (.int .i64 zy)) _ := ⟨cn, cq, z0, z1, c0, c1, q0, q1⟩
            gi_wp2
            refine anyHF_take (i := 18) (d := 53) (v := .bool false) (by kernel_rfl) rfl (by kernel_rfl) (by kernel_rfl) (by kernel_rfl) rfl (fun _ _ _ h => h) ⟨Or.inl ⟨by rfl, fun w hS => by obtain ⟨h0, h1, h2, h3, h4, h5, h6, h7⟩ := hS; go_simp⟩, fun _ => rfl⟩ hS ?_
            simp only [List.setIfInBounds_toArray, List.set_cons_zero, List.set_cons_succ]
            refine anyHF_take (i := 19) (d := 54) (v := .bool false) (by kernel_rfl) rfl (by kernel_rfl) (by kernel_rfl) (by kernel_rfl) rfl (fun _ _ _ h => h) ⟨Or.inl ⟨by rfl, fun w hS => by obtain ⟨h0, h1, h2, h3, h4, h5, h6, h7⟩ := hS; go_simp⟩, fun _ => rfl⟩ hS ?_
            simp only [List.setIfInBounds_toArray, List.set_cons_zero, List.set_cons_succ]
            refine anyHF_done (by kernel_rfl) ?_ _
            have hBX := below_in hB hX
            replace hn := hn.below hX hn.lt
            have fn := hn.frozen 0
            replace cty := nextc cty hX
            replace cmx := nextc cmx hX
            have hsX := hX.size
            have hl1 : ((pre ++ [((zx, zy), zv)]).length : Int) = (pre.length : Int) + 1 := by rw [List.length_append]; rfl
            have HL1 := Lib.hid hl1
            have hBS : Hid (Below V.heap.size V (X3.setCell ⟨V.heap.size, 0, none⟩ (.int .i64 ((pre.length : Int) + 1)))) := by exact hBX.setCell (by simp) _
            have HT : Hid (Told V.heap.size V (pre ++ [((zx, zy), zv)]) (X3.setCell ⟨V.heap.size, 0, none⟩ (.int .i64 ((pre.length : Int) + 1)))) := by
              refine ⟨?_, hBS.out⟩
              rw [hl1]
              exact hn.set_ 0 _
            have hSi : Hid (SinceO (V.alloc (.cells #[.int .i64 0] 3)).heap.size none W (X3.setCell ⟨V.heap.size, 0, none⟩ (.int .i64 ((pre.length : Int) + 1)))) := by exact (SinceO.below hX).trans_ (sinceO_set _ (by simp) _ _)
            have hKe : Hid (KeepL W6.heap.size (w7.heap.size - W6.heap.size) W (X3.setCell ⟨V.heap.size, 0, none⟩ (.int .i64 ((pre.length : Int) + 1)))) := by exact ⟨(Keep.below hX (by omega)).trans (Keep.setFar _ (by simp; omega) _), fun _ => F.hL.next hBS.out⟩
            clear hl1 hS
            by_cases hm : many ≤ (pre.length : Int) + 1
            · have dm : decide (many ≤ (pre.length : Int) + 1) = true := decide_eq_true hm
              gi_wp2
              refine ⟨none, .inl rfl, (by simpa using hSi.out), rfl, .inr ⟨⟨rfl, by rw [List.length_append]; simp, ?_, ?_, HPE.out⟩, HT.out⟩⟩
              · rcases hcnd with h | h
                · left; rw [List.length_append, h]; rfl
                · right; rw [HL1.out]; omega
              · rw [HL1.out]; exact hm
            · have dm : decide (many ≤ (pre.length : Int) + 1) = false := decide_eq_false hm
              gi_wp2
              refine ⟨none, .inl rfl, (by simpa using hSi.out), hKe.out, rfl, ⟨HPE.out, .inr ?_⟩, HT.out⟩
              rw [HL1.out]; omega
          · have HPN := Lib.hid (hpn (fun e => ey (by injection e)))
            clear hpe hpn
            gi_wp2_with fail
            have hS : (fun U : World => U.cell? ⟨V.heap.size, 0, none⟩ = some (.int .i64 (pre.length : Int)) ∧ U.cell? ⟨w.heap.size + 1 + 1 + 1 + 1 + 1, 0, none⟩ = some (.slice (some ⟨gq, 0, none⟩) zs.length wcap) ∧ U.cell? ⟨Bx, 0, none⟩ = some (.int .i64 zx) ∧ U.cell? ⟨Bx, 1, none⟩ = some (.int .i64 zy) ∧ U.cell? ⟨w.heap.size, 0, none⟩ = some (.int .i64 k) ∧ U.cell? ⟨w.heap.size, 1, none⟩ = some (.int .i64 p) ∧ U.cell? ⟨gq, pre.length * 2, none⟩ = some (.int .i64 zx) ∧ U.cell? ⟨gq, pre.length * 2 + 1, none⟩ = some (.int .i64 qy)) W.drew := ⟨cn, cq, z0, z1, c0, c1, q0, q1⟩
            refine region_HF (S := (fun U : World => U.cell? ⟨V.heap.size, 0, none⟩ = some (.int .i64 (pre.length : Int)) ∧ U.cell? ⟨w.heap.size + 1 + 1 + 1 + 1 + 1, 0, none⟩ = some (.slice (some ⟨gq, 0, none⟩) zs.length wcap) ∧ U.cell? ⟨Bx, 0, none⟩ = some (.int .i64 zx) ∧ U.cell? ⟨Bx, 1, none⟩ = some (.int .i64 zy) ∧ U.cell? ⟨w.heap.size, 0, none⟩ = some (.int .i64 k) ∧ U.cell? ⟨w.heap.size, 1, none⟩ = some (.int .i64 p) ∧ U.cell? ⟨gq, pre.length * 2, none⟩ = some (.int .i64 zx) ∧ U.cell? ⟨gq, pre.length * 2 + 1, none⟩ = some (.int .i64 qy))) (by kernel_rfl) ?_
            refine anyHF_take (i := 0) (d := 35) (v := .int .i64 (pre.length : Int)) (by kernel_rfl) rfl (by kernel_rfl) (by kernel_rfl) (by kernel_rfl) rfl (fun _ _ _ h => h) ⟨Or.inl ⟨by rfl, fun w hS => by obtain ⟨h0, h1, h2, h3, h4, h5, h6, h7⟩ := hS; go_simp⟩, fun _ => rfl⟩ hS ?_
            simp only [List.setIfInBounds_toArray, List.set_cons_zero, List.set_cons_succ]
            refine anyHF_take (i := 1) (d := 36) (v := .slice (some ⟨gq, 0, none⟩) zs.length wcap) (by kernel_rfl) rfl (by kernel_rfl) (by kernel_rfl) (by kernel_rfl) rfl (fun _ _ _ h => h) ⟨Or.inl ⟨by rfl, fun w hS => by obtain ⟨h0, h1, h2, h3, h4, h5, h6, h7⟩ := hS; go_simp⟩, fun _ => rfl⟩ hS ?_
            simp only [List.setIfInBounds_toArray, List.set_cons_zero, List.set_cons_succ]
            refine anyHF_one (i := 2) (by kernel_rfl) rfl (by kernel_rfl) (by rfl) ?_
            gi_wp2
            refine anyHF_take (i := 3) (d := 38) (v := .bool false) (by kernel_rfl) rfl (by kernel_rfl) (by kernel_rfl) (by kernel_rfl) rfl (fun _ _ _ h => h) ⟨Or.inl ⟨by rfl, fun w hS => by obtain ⟨h0, h1, h2, h3, h4, h5, h6, h7⟩ := hS; go_simp⟩, fun _ => rfl⟩ hS ?_
            simp only [List.setIfInBounds_toArray, List.set_cons_zero, List.set_cons_succ]
            refine anyHF_take (i := 4) (d := 39) (v := .bool false) (by kernel_rfl) rfl (by kernel_rfl) (by kernel_rfl) (by kernel_rfl) rfl (fun _ _ _ h => h) ⟨Or.inl ⟨by rfl, fun w hS => by obtain ⟨h0, h1, h2, h3, h4, h5, h6, h7⟩ := hS; go_simp⟩, fun _ => rfl⟩ hS ?_
            simp only [List.setIfInBounds_toArray, List.set_cons_zero, List.set_cons_succ]
            refine anyHF_take (i := 5) (d := 40) (v := .agg #[.int .i64 zx, .int .i64 zy]) (by kernel_rfl) rfl (by kernel_rfl) (by kernel_rfl) (by kernel_rfl) rfl (fun _ _ _ h => h) ⟨Or.inl ⟨by rfl, fun w hS => by obtain ⟨h0, h1, h2, h3, h4, h5, h6, h7⟩ := hS; go_simp⟩, fun _ => rfl⟩ hS ?_
            simp only [List.setIfInBounds_toArray, List.set_cons_zero, List.set_cons_succ]
            refine anyHF_take (i := 6) (d := 41) (v := .slice (some ⟨gq, 0, none⟩) zs.length wcap) (by kernel_rfl) rfl (by kernel_rfl) (by kernel_rfl) (by kernel_rfl) rfl (fun _ _ _ h => h) ⟨Or.inl ⟨by rfl, fun w hS => by obtain ⟨h0, h1, h2, h3, h4, h5, h6, h7⟩ := hS; go_simp⟩, fun _ => rfl⟩ hS ?_
            simp only [List.setIfInBounds_toArray, List.set_cons_zero, List.set_cons_succ]
            refine anyHF_take (i := 7) (d := 42) (v := .int .i64 (pre.length : Int)) (by kernel_rfl) rfl (by kernel_rfl) (by kernel_rfl) (by kernel_rfl) rfl (fun _ _ _ h => h) ⟨Or.inl ⟨by rfl, fun w hS => by obtain ⟨h0, h1, h2, h3, h4, h5, h6, h7⟩ := hS; go_simp⟩, fun _ => rfl⟩ hS ?_
            simp only [List.setIfInBounds_toArray, List.set_cons_zero, List.set_cons_succ]
            refine anyHF_take (i := 8) (d := 43) (v := .pointer (some ⟨gq, pre.length * 2, none⟩)) (by kernel_rfl) rfl (by kernel_rfl) (by kernel_rfl) (by kernel_rfl) rfl (fun _ _ _ h => h) ⟨Or.inl ⟨by rfl, fun w hS => by obtain ⟨h0, h1, h2, h3, h4, h5, h6, h7⟩ := hS; go_simp⟩, fun _ => rfl⟩ hS ?_
            simp only [List.setIfInBounds_toArray, List.set_cons_zero, List.set_cons_succ]
            refine anyHF_take (i := 9) (d := 44) (v := .agg #[.int .i64 zx, .int .i64 qy]) (by kernel_rfl) rfl (by kernel_rfl) (by kernel_rfl) (by kernel_rfl) rfl (fun _ _ _ h => h) ⟨Or.inl ⟨by rfl, fun w hS => by obtain ⟨h0, h1, h2, h3, h4, h5, h6, h7⟩ := hS; go_simp⟩, fun _ => rfl⟩ hS ?_
            simp only [List.setIfInBounds_toArray, List.set_cons_zero, List.set_cons_succ]
            refine anyHF_take (i := 10) (d := 45) (v := .bool true) (by kernel_rfl) rfl (by kernel_rfl) (by kernel_rfl) (by kernel_rfl) rfl (fun _ _ _ h => h) ⟨Or.inl ⟨by rfl, fun w hS => by obtain ⟨h0, h1, h2, h3, h4, h5, h6, h7⟩ := hS; go_simp⟩, fun _ => rfl⟩ hS ?_
            simp only [List.setIfInBounds_toArray, List.set_cons_zero, List.set_cons_succ]
            refine anyHF_take (i := 11) (d := 46) (v := .bool true) (by kernel_rfl) rfl (by kernel_rfl) (by kernel_rfl) (by kernel_rfl) rfl (fun _ _ _ h => h) ⟨Or.inl ⟨by rfl, fun w hS => by obtain ⟨h0, h1, h2, h3, h4, h5, h6, h7⟩ := hS; go_simp⟩, fun _ => rfl⟩ hS ?_
            simp only [List.setIfInBounds_toArray, List.set_cons_zero, List.set_cons_succ]
            refine anyHF_take (i := 12) (d := 47) (v := .bool true) (by kernel_rfl) rfl (by kernel_rfl) (by kernel_rfl) (by kernel_rfl) rfl (fun _ _ _ h => h) ⟨Or.inl ⟨by rfl, fun w hS => by obtain ⟨h0, h1, h2, h3, h4, h5, h6, h7⟩ := hS; go_simp⟩, fun _ => rfl⟩ hS ?_
            simp only [List.setIfInBounds_toArray, List.set_cons_zero, List.set_cons_succ]
            refine anyHF_take (i := 13) (d := 48) (v := undef) (by kernel_rfl) rfl (by kernel_rfl) (by kernel_rfl) (by kernel_rfl) rfl (fun _ _ _ h => h) ⟨Or.inr ⟨by rfl, rfl⟩, fun _ => rfl⟩ hS ?_
            simp only [List.setIfInBounds_toArray, List.set_cons_zero, List.set_cons_succ]
            refine anyHF_take (i := 14) (d := 49) (v := undef) (by kernel_rfl) rfl (by kernel_rfl) (by kernel_rfl) (by kernel_rfl) rfl (fun _ _ _ h => h) ⟨Or.inr ⟨by rfl, rfl⟩, fun _ => rfl⟩ hS ?_
            simp only [List.setIfInBounds_toArray, List.set_cons_zero, List.set_cons_succ]
            refine anyHF_take (i := 15) (d := 50) (v := undef) (by kernel_rfl) rfl (by kernel_rfl) (by kernel_rfl) (by kernel_rfl) rfl (fun _ _ _ h => h) ⟨Or.inr ⟨by rfl, rfl⟩, fun _ => rfl⟩ hS ?_
            simp only [List.setIfInBounds_toArray, List.set_cons_zero, List.set_cons_succ]
            refine anyHF_skip (i := 16) (d := 51) (by kernel_rfl) rfl (by rfl) rfl wide_fn hS ?_
            simp only [List.setIfInBounds_toArray, List.set_cons_zero, List.set_cons_succ]
            refine anyHF_skip (i := 17) (d := 52) (by kernel_rfl) rfl (by rfl) rfl wide_fn hS ?_
            simp only [List.setIfInBounds_toArray, List.set_cons_zero, List.set_cons_succ]
            refine anyHF_take (i := 18) (d := 53) (v := undef) (by kernel_rfl) rfl (by kernel_rfl) (by kernel_rfl) (by kernel_rfl) rfl (fun _ _ _ h => h) ⟨Or.inr ⟨by rfl, rfl⟩, fun _ => rfl⟩ hS ?_
            simp only [List.setIfInBounds_toArray, List.set_cons_zero, List.set_cons_succ]
            refine anyHF_take (i := 19) (d := 54) (v := .bool true) (by kernel_rfl) rfl (by kernel_rfl) (by kernel_rfl) (by kernel_rfl) rfl (fun _ _ _ h => h) ⟨Or.inl ⟨by rfl, fun w hS => by obtain ⟨h0, h1, h2, h3, h4, h5, h6, h7⟩ := hS; go_simp⟩, fun _ => rfl⟩ hS ?_
            simp only [List.setIfInBounds_toArray, List.set_cons_zero, List.set_cons_succ]
            refine anyHF_done (by kernel_rfl) ?_ _
            gi_wp2
            exact ⟨none, .inl rfl, sinceO_set _ (by simp; omega) _ _, rfl, .inl ⟨rfl, HPN.out⟩⟩
        · have HPN := Lib.hid (hpn (fun e => ex (by injection e)))
          clear hpe hpn
          gi_wp2_with fail
          have hS : (fun U : World => U.cell? ⟨V.heap.size, 0, none⟩ = some (.int .i64 (pre.length : Int)) ∧ U.cell? ⟨w.heap.size + 1 + 1 + 1 + 1 + 1, 0, none⟩ = some (.slice (some ⟨gq, 0, none⟩) zs.length wcap) ∧ U.cell? ⟨Bx, 0, none⟩ = some (.int .i64 zx) ∧ U.cell? ⟨Bx, 1, none⟩ = some (.int .i64 zy) ∧ U.cell? ⟨w.heap.size, 0, none⟩ = some (.int .i64 k) ∧ U.cell? ⟨w.heap.size, 1, none⟩ = some (.int .i64 p) ∧ U.cell? ⟨gq, pre.length * 2, none⟩ = some (.int .i64 qx) ∧ U.cell? ⟨gq, pre.length * 2 + 1, none⟩ = some (.int .i64 qy)) W.drew := ⟨cn, cq, z0, z1, c0, c1, q0, q1⟩
          refine region_HF (S := (fun U : World => U.cell? ⟨V.heap.size, 0, none⟩ = some (.int .i64 (pre.length : Int)) ∧ U.cell? ⟨w.heap.size + 1 + 1 + 1 + 1 + 1, 0, none⟩ = some (.slice (some ⟨gq, 0, none⟩) zs.length wcap) ∧ U.cell? ⟨Bx, 0, none⟩ = some (.int .i64 zx) ∧ U.cell? ⟨Bx, 1, none⟩ = some (.int .i64 zy) ∧ U.cell? ⟨w.heap.size, 0, none⟩ = some (.int .i64 k) ∧ U.cell? ⟨w.heap.size, 1, none⟩ = some (.int .i64 p) ∧ U.cell? ⟨gq, pre.length * 2, none⟩ = some (.int .i64 qx) ∧ U.cell? ⟨gq, pre.length * 2 + 1, none⟩ = some (.int .i64 qy))) (by kernel_rfl) ?_
          refine anyHF_take (i := 0) (d := 35) (v := .int .i64 (pre.length : Int)) (by kernel_rfl) rfl (by kernel_rfl) (by kernel_rfl) (by kernel_rfl) rfl (fun _ _ _ h => h) ⟨Or.inl ⟨by rfl, fun w hS => by obtain ⟨h0, h1, h2, h3, h4, h5, h6, h7⟩ := hS; go_simp⟩, fun _ => rfl⟩ hS ?_
          simp only [List.setIfInBounds_toArray, List.set_cons_zero, List.set_cons_succ]
          refine anyHF_take (i := 1) (d := 36) (v := .slice (some ⟨gq, 0, none⟩) zs.length wcap) (by kernel_rfl) rfl (by kernel_rfl) (by kernel_rfl) (by kernel_rfl) rfl (fun _ _ _ h => h) ⟨Or.inl ⟨by rfl, fun w hS => by obtain ⟨h0, h1, h2, h3, h4, h5, h6, h7⟩ := hS; go_simp⟩, fun _ => rfl⟩ hS ?_
          simp only [List.setIfInBounds_toArray, List.set_cons_zero, List.set_cons_succ]
          refine anyHF_one (i := 2) (by kernel_rfl) rfl (by kernel_rfl) (by rfl) ?_
          gi_wp2
          refine anyHF_take (i := 3) (d := 38) (v := .bool false) (by kernel_rfl) rfl (by kernel_rfl) (by kernel_rfl) (by kernel_rfl) rfl (fun _ _ _ h => h) ⟨Or.inl ⟨by rfl, fun w hS => by obtain ⟨h0, h1, h2, h3, h4, h5, h6, h7⟩ := hS; go_simp⟩, fun _ => rfl⟩ hS ?_
          simp only [List.setIfInBounds_toArray, List.set_cons_zero, List.set_cons_succ]
          refine anyHF_take (i := 4) (d := 39) (v := .bool false) (by kernel_rfl) rfl (by kernel_rfl) (by kernel_rfl) (by kernel_rfl) rfl (fun _ _ _ h => h) ⟨Or.inl ⟨by rfl, fun w hS => by obtain ⟨h0, h1, h2, h3, h4, h5, h6, h7⟩ := hS; go_simp⟩, fun _ => rfl⟩ hS ?_
          simp only [List.setIfInBounds_toArray, List.set_cons_zero, List.set_cons_succ]
          refine anyHF_take (i := 5) (d := 40) (v := .agg #[.int .i64 zx, .int .i64 zy]) (by kernel_rfl) rfl (by kernel_rfl) (by kernel_rfl) (by kernel_rfl) rfl (fun _ _ _ h => h) ⟨Or.inl ⟨by rfl, fun w hS => by obtain ⟨h0, h1, h2, h3, h4, h5, h6, h7⟩ := hS; go_simp⟩, fun _ => rfl⟩ hS ?_
          simp only [List.setIfInBounds_toArray, List.set_cons_zero, List.set_cons_succ]
          refine anyHF_take (i := 6) (d := 41) (v := .slice (some ⟨gq, 0, none⟩) zs.length wcap) (by kernel_rfl) rfl (by kernel_rfl) (by kernel_rfl) (by kernel_rfl) rfl (fun _ _ _ h => h) ⟨Or.inl ⟨by rfl, fun w hS => by obtain ⟨h0, h1, h2, h3, h4, h5, h6, h7⟩ := hS; go_simp⟩, fun _ => rfl⟩ hS ?_
          simp only [List.setIfInBounds_toArray, List.set_cons_zero, List.set_cons_succ]
          refine anyHF_take (i := 7) (d := 42) (v := .int .i64 (pre.length : Int)) (by kernel_rfl) rfl (by kernel_rfl) (by kernel_rfl) (by kernel_rfl) rfl (fun _ _ _ h => h) ⟨Or.inl ⟨by rfl, fun w hS => by obtain ⟨h0, h1, h2, h3, h4, h5, h6, h7⟩ := hS; go_simp⟩, fun _ => rfl⟩ hS ?_
          simp only [List.setIfInBounds_toArray, List.set_cons_zero, List.set_cons_succ]
          refine anyHF_take (i := 8) (d := 43) (v := .pointer (some ⟨gq, pre.length * 2, none⟩)) (by kernel_rfl) rfl (by kernel_rfl) (by kernel_rfl) (by kernel_rfl) rfl (fun _ _ _ h => h) ⟨Or.inl ⟨by rfl, fun w hS => by obtain ⟨h0, h1, h2, h3, h4, h5, h6, h7⟩ := hS; go_simp⟩, fun _ => rfl⟩ hS ?_
          simp only [List.setIfInBounds_toArray, List.set_cons_zero, List.set_cons_succ]
          refine anyHF_take (i := 9) (d := 44) (v := .agg #[.int .i64 qx, .int .i64 qy]) (by kernel_rfl) rfl (by kernel_rfl) (by kernel_rfl) (by kernel_rfl) rfl (fun _ _ _ h => h) ⟨Or.inl ⟨by rfl, fun w hS => by obtain ⟨h0, h1, h2, h3, h4, h5, h6, h7⟩ := hS; go_simp⟩, fun _ => rfl⟩ hS ?_
          simp only [List.setIfInBounds_toArray, List.set_cons_zero, List.set_cons_succ]
          refine anyHF_take (i := 10) (d := 45) (v := .bool true) (by kernel_rfl) rfl (by kernel_rfl) (by kernel_rfl) (by kernel_rfl) rfl (fun _ _ _ h => h) ⟨Or.inl ⟨by rfl, fun w hS => by obtain ⟨h0, h1, h2, h3, h4, h5, h6, h7⟩ := hS; go_simp⟩, fun _ => rfl⟩ hS ?_
          simp only [List.setIfInBounds_toArray, List.set_cons_zero, List.set_cons_succ]
          refine anyHF_take (i := 11) (d := 46) (v := .bool true) (by kernel_rfl) rfl (by kernel_rfl) (by kernel_rfl) (by kernel_rfl) rfl (fun _ _ _ h => h) ⟨Or.inl ⟨by rfl, fun w hS => by obtain ⟨h0, h1, h2, h3, h4, h5, h6, h7⟩ := hS; go_simp⟩, fun _ => rfl⟩ hS ?_
          simp only [List.setIfInBounds_toArray, List.set_cons_zero, List.set_cons_succ]
          refine anyHF_take (i := 12) (d := 47) (v := .bool true) (by kernel_rfl) rfl (by kernel_rfl) (by kernel_rfl) (by kernel_rfl) rfl (fun _ _ _ h => h) ⟨Or.inl ⟨by rfl, fun w hS => by obtain ⟨h0, h1, h2, h3, h4, h5, h6, h7⟩ := hS; go_simp⟩, fun _ => rfl⟩ hS ?_
          simp only [List.setIfInBounds_toArray, List.set_cons_zero, List.set_cons_succ]
          refine anyHF_take (i := 13) (d := 48) (v := undef) (by kernel_rfl) rfl (by kernel_rfl) (by kernel_rfl) (by kernel_rfl) rfl (fun _ _ _ h => h) ⟨Or.inr ⟨by rfl, rfl⟩, fun _ => rfl⟩ hS ?_
          simp only [List.setIfInBounds_toArray, List.set_cons_zero, List.set_cons_succ]
          refine anyHF_take (i := 14) (d := 49) (v := undef) (by kernel_rfl) rfl (by kernel_rfl) (by kernel_rfl) (by kernel_rfl) rfl (fun _ _ _ h => h) ⟨Or.inr ⟨by rfl, rfl⟩, fun _ => rfl⟩ hS ?_
          simp only [List.setIfInBounds_toArray, List.set_cons_zero, List.set_cons_succ]
          refine anyHF_take (i := 15) (d := 50) (v := undef) (by kernel_rfl) rfl (by kernel_rfl) (by kernel_rfl) (by kernel_rfl) rfl (fun _ _ _ h => h) ⟨Or.inr ⟨by rfl, rfl⟩, fun _ => rfl⟩ hS ?_
          simp only [List.setIfInBounds_toArray, List.set_cons_zero, List.set_cons_succ]
          refine anyHF_skip (i := 16) (d := 51) (by kernel_rfl) rfl (by rfl) rfl wide_fn hS ?_
          simp only [List.setIfInBounds_toArray, List.set_cons_zero, List.set_cons_succ]
          refine anyHF_skip (i := 17) (d := 52) (by kernel_rfl) rfl (by rfl) rfl wide_fn hS ?_
          simp only [List.setIfInBounds_toArray, List.set_cons_zero, List.set_cons_succ]
          refine anyHF_take (i := 18) (d := 53) (v := undef) (by kernel_rfl) rfl (by kernel_rfl) (by kernel_rfl) (by kernel_rfl) rfl (fun _ _ _ h => h) ⟨Or.inr ⟨by rfl, rfl⟩, fun _ => rfl⟩ hS ?_
          simp only [List.setIfInBounds_toArray, List.set_cons_zero, List.set_cons_succ]
          refine anyHF_take (i := 19) (d := 54) (v := .bool true) (by kernel_rfl) rfl (by kernel_rfl) (by kernel_rfl) (by kernel_rfl) rfl (fun _ _ _ h => h) ⟨Or.inl ⟨by rfl, fun w hS => by obtain ⟨h0, h1, h2, h3, h4, h5, h6, h7⟩ := hS; go_simp⟩, fun _ => rfl⟩ hS ?_
          simp only [List.setIfInBounds_toArray, List.set_cons_zero, List.set_cons_succ]
          refine anyHF_done (by kernel_rfl) ?_ _
          gi_wp2
          exact ⟨none, .inl rfl, sinceO_set _ (by simp; omega) _ _, rfl, .inl ⟨rfl, HPN.out⟩⟩
      · have dp : decide ((zs.length : Int) ≤ (pre.length : Int)) = true := decide_eq_true (by omega)
        have HN := Lib.hid (prefix_not (zs := zs) (pre := pre) (x := ((zx, zy), zv)) (fun h => by omega))
        gi_wp2_with fail
        have hS : (fun U : World => U.cell? ⟨V.heap.size, 0, none⟩ = some (.int .i64 (pre.length : Int)) ∧ U.cell? ⟨w.heap.size + 1 + 1 + 1 + 1 + 1, 0, none⟩ = some (.slice wq zs.length wcap) ∧ U.cell? ⟨Bx, 0, none⟩ = some (.int .i64 zx) ∧ U.cell? ⟨Bx, 1, none⟩ = some (.int .i64 zy) ∧ U.cell? ⟨w.heap.size, 0, none⟩ = some (.int .i64 k) ∧ U.cell? ⟨w.heap.size, 1, none⟩ = some (.int .i64 p)) W.drew := ⟨cn, cq, z0, z1, c0, c1⟩
        refine region_HF (S := (fun U : World => U.cell? ⟨V.heap.size, 0, none⟩ = some (.int .i64 (pre.length : Int)) ∧ U.cell? ⟨w.heap.size + 1 + 1 + 1 + 1 + 1, 0, none⟩ = some (.slice wq zs.length wcap) ∧ U.cell? ⟨Bx, 0, none⟩ = some (.int .i64 zx) ∧ U.cell? ⟨Bx, 1, none⟩ = some (.int .i64 zy) ∧ U.cell? ⟨w.heap.size, 0, none⟩ = some (.int .i64 k) ∧ U.cell? ⟨w.heap.size, 1, none⟩ = some (.int .i64 p))) (by kernel_rfl) ?_
        refine anyHF_take (i := 0) (d := 35) (v := .int .i64 (pre.length : Int)) (by kernel_rfl) rfl (by kernel_rfl) (by kernel_rfl) (by kernel_rfl) rfl (fun _ _ _ h => h) ⟨Or.inl ⟨by rfl, fun w hS => by obtain ⟨h0, h1, h2, h3, h4, h5⟩ := hS; go_simp⟩, fun _ => rfl⟩ hS ?_
        simp only [List.setIfInBounds_toArray, List.set_cons_zero, List.set_cons_succ]
        refine anyHF_take (i := 1) (d := 36) (v := .slice wq zs.length wcap) (by kernel_rfl) rfl (by kernel_rfl) (by kernel_rfl) (by kernel_rfl) rfl (fun _ _ _ h => h) ⟨Or.inl ⟨by rfl, fun w hS => by obtain ⟨h0, h1, h2, h3, h4, h5⟩ := hS; go_simp⟩, fun _ => rfl⟩ hS ?_
        simp only [List.setIfInBounds_toArray, List.set_cons_zero, List.set_cons_succ]
        refine anyHF_one (i := 2) (by kernel_rfl) rfl (by kernel_rfl) (by rfl) ?_
        gi_wp2
        refine anyHF_take (i := 3) (d := 38) (v := .bool true) (by kernel_rfl) rfl (by kernel_rfl) (by kernel_rfl) (by kernel_rfl) rfl (fun _ _ _ h => h) ⟨Or.inl ⟨by rfl, fun w hS => by obtain ⟨h0, h1, h2, h3, h4, h5⟩ := hS; go_simp⟩, fun _ => rfl⟩ hS ?_
        simp only [List.setIfInBounds_toArray, List.set_cons_zero, List.set_cons_succ]
        refine anyHF_take (i := 4) (d := 39) (v := .bool true) (by kernel_rfl) rfl (by kernel_rfl) (by kernel_rfl) (by kernel_rfl) rfl (fun _ _ _ h => h) ⟨Or.inl ⟨by rfl, fun w hS => by obtain ⟨h0, h1, h2, h3, h4, h5⟩ := hS; go_simp⟩, fun _ => rfl⟩ hS ?_
        simp only [List.setIfInBounds_toArray, List.set_cons_zero, List.set_cons_succ]
        refine anyHF_take (i := 5) (d := 40) (v := undef) (by kernel_rfl) rfl (by kernel_rfl) (by kernel_rfl) (by kernel_rfl) rfl (fun _ _ _ h => h) ⟨Or.inr ⟨by rfl, rfl⟩, fun _ => rfl⟩ hS ?_
        simp only [List.setIfInBounds_toArray, List.set_cons_zero, List.set_cons_succ]
        refine anyHF_take (i := 6) (d := 41) (v := undef) (by kernel_rfl) rfl (by kernel_rfl) (by kernel_rfl) (by kernel_rfl) rfl (fun _ _ _ h => h) ⟨Or.inr ⟨by rfl, rfl⟩, fun _ => rfl⟩ hS ?_
        simp only [List.setIfInBounds_toArray, List.set_cons_zero, List.set_cons_succ]
        refine anyHF_take (i := 7) (d := 42) (v := undef) (by kernel_rfl) rfl (by kernel_rfl) (by kernel_rfl) (by kernel_rfl) rfl (fun _ _ _ h => h) ⟨Or.inr ⟨by rfl, rfl⟩, fun _ => rfl⟩ hS ?_
        simp only [List.setIfInBounds_toArray, List.set_cons_zero, List.set_cons_succ]
        refine anyHF_take (i := 8) (d := 43) (v := undef) (by kernel_rfl) rfl (by kernel_rfl) (by kernel_rfl) (by kernel_rfl) rfl (fun _ _ _ h => h) ⟨Or.inr ⟨by rfl, rfl⟩, fun _ => rfl⟩ hS ?_
        simp only [List.setIfInBounds_toArray, List.set_cons_zero, List.set_cons_succ]
        refine anyHF_take (i := 9) (d := 44) (v := undef) (by kernel_rfl) rfl (by kernel_rfl) (by kernel_rfl) (by kernel_rfl) rfl (fun _ _ _ h => h) ⟨Or.inr ⟨by rfl, rfl⟩, fun _ => rfl⟩ hS ?_
        simp only [List.setIfInBounds_toArray, List.set_cons_zero, List.set_cons_succ]
        refine anyHF_take (i := 10) (d := 45) (v := undef) (by kernel_rfl) rfl (by kernel_rfl) (by kernel_rfl) (by kernel_rfl) rfl (fun _ _ _ h => h) ⟨Or.inr ⟨by rfl, rfl⟩, fun _ => rfl⟩ hS ?_
        simp only [List.setIfInBounds_toArray, List.set_cons_zero, List.set_cons_succ]
        refine anyHF_take (i := 11) (d := 46) (v := .bool true) (by kernel_rfl) rfl (by kernel_rfl) (by kernel_rfl) (by kernel_rfl) rfl (fun _ _ _ h => h) ⟨Or.inl ⟨by rfl, fun w hS => by obtain ⟨h0, h1, h2, h3, h4, h5⟩ := hS; go_simp⟩, fun _ => rfl⟩ hS ?_
        simp only [List.setIfInBounds_toArray, List.set_cons_zero, List.set_cons_succ]
        refine anyHF_take (i := 12) (d := 47) (v := .bool true) (by kernel_rfl) rfl (by kernel_rfl) (by kernel_rfl) (by kernel_rfl) rfl (fun _ _ _ h => h) ⟨Or.inl ⟨by rfl, fun w hS => by obtain ⟨h0, h1, h2, h3, h4, h5⟩ := hS; go_simp⟩, fun _ => rfl⟩ hS ?_
        simp only [List.setIfInBounds_toArray, List.set_cons_zero, List.set_cons_succ]
        refine anyHF_take (i := 13) (d := 48) (v := undef) (by kernel_rfl) rfl (by kernel_rfl) (by kernel_rfl) (by kernel_rfl) rfl (fun _ _ _ h => h) ⟨Or.inr ⟨by rfl, rfl⟩, fun _ => rfl⟩ hS ?_
        simp only [List.setIfInBounds_toArray, List.set_cons_zero, List.set_cons_succ]
        refine anyHF_take (i := 14) (d := 49) (v := undef) (by kernel_rfl) rfl (by kernel_rfl) (by kernel_rfl) (by kernel_rfl) rfl (fun _ _ _ h => h) ⟨Or.inr ⟨by rfl, rfl⟩, fun _ => rfl⟩ hS ?_
        simp only [List.setIfInBounds_toArray, List.set_cons_zero, List.set_cons_succ]
        refine anyHF_take (i := 15) (d := 50) (v := undef) (by kernel_rfl) rfl (by kernel_rfl) (by kernel_rfl) (by kernel_rfl) rfl (fun _ _ _ h => h) ⟨Or.inr ⟨by rfl, rfl⟩, fun _ => rfl⟩ hS ?_
        simp only [List.setIfInBounds_toArray, List.set_cons_zero, List.set_cons_succ]
        refine anyHF_skip (i := 16) (d := 51) (by kernel_rfl) rfl (by rfl) rfl wide_fn hS ?_
        simp only [List.setIfInBounds_toArray, List.set_cons_zero, List.set_cons_succ]
        refine anyHF_skip (i := 17) (d := 52) (by kernel_rfl) rfl (by rfl) rfl wide_fn hS ?_
        simp only [List.setIfInBounds_toArray, List.set_cons_zero, List.set_cons_succ]
        refine anyHF_take (i := 18) (d := 53) (v := undef) (by kernel_rfl) rfl (by kernel_rfl) (by kernel_rfl) (by kernel_rfl) rfl (fun _ _ _ h => h) ⟨Or.inr ⟨by rfl, rfl⟩, fun _ => rfl⟩ hS ?_
        simp only [List.setIfInBounds_toArray, List.set_cons_zero, List.set_cons_succ]
        refine anyHF_take (i := 19) (d := 54) (v := .bool true) (by kernel_rfl) rfl (by kernel_rfl) (by kernel_rfl) (by kernel_rfl) rfl (fun _ _ _ h => h) ⟨Or.inl ⟨by rfl, fun w hS => by obtain ⟨h0, h1, h2, h3, h4, h5⟩ := hS; go_simp⟩, fun _ => rfl⟩ hS ?_
        simp only [List.setIfInBounds_toArray, List.set_cons_zero, List.set_cons_succ]
        refine anyHF_done (by kernel_rfl) ?_ _
        gi_wp2
        exact ⟨none, .inl rfl, sinceO_set _ (by simp; omega) _ _, rfl, .inl ⟨rfl, HN.out⟩⟩
    case done_0 =>
      rintro D ys o W hD _ hys ⟨rfl, ⟨hpre, hcnd⟩, hn, hB⟩ hKD _
      have hlen : (ys.length : Int) = (zs.length : Int) := by rw [← hys, List.length_map]
      rw [hlen] at hn
      have hmin : ((zs.length : Int) != min (zs.length : Int) (max 1 many)) = false := by
        rw [bne_eq_false_iff_eq]; rcases hcnd with h | h <;> omega
      have cn := hn.one
      have cq := (F.q.below hB F.q.lt).one
      have cty := (ct.below hB ct.lt).one
      have cmx := (F.m.below hB F.m.lt).one
      have lt0 := hB.size
      gi_wp2
      all_goals
        obtain ⟨V1, hV1⟩ : ∃ V1, W.alloc (.cells #[.int .i64 1] 3) = V1 := ⟨_, rfl⟩
        rw [hV1]
        have hB1 : Below V.heap.size V V1 := by rw [← hV1]; exact hB.alloc hB.size _
        have ct1 : Blk V1 W.heap.size 3 #[.int .i64 (1 : Nat)] := by rw [← hV1]; exact Blk.new _ _ _
        have hlD := (Array.getElem?_eq_some_iff.1 hKD).1
        have hD1 : V1.heap[D]? = some (.deferred (some [])) := by rw [← hV1]; exact (Below.heap_alloc W _ D hlD).trans hKD
        have hL1 := hLeft.more hB1 (by have := hW.size; simp at hD; omega) (by simp at hD; omega) hD1
        have hz := fun (z11 z12 z26 z27 z28 z29 z30 z31 z32 z64 z65 z66 z67 z68 z69 z70 z71 z72 z73 z74 z75 z76 z77 z78 z79 z80 z81 z82 z83 z84 z85 : Value) hr => hK 1 [z11, z12, z26, z27, z28, z29, z30, z31, z32, z64, z65, z66, z67, z68, z69, z70, z71, z72, z73, z74, z75, z76, z77, z78, z79, z80, z81, z82, z83, z84, z85] (D :: Ds) V1 (by omega) hr
        simp only [sets, List.setIfInBounds_toArray, List.set_cons_zero, List.set_cons_succ] at hz
        refine hz _ _ _ _ _ _ _ _ _ _ _ _ _ _ _ _ _ _ _ _ _ _ _ _ _ _ _ _ _ _ _ ⟨1, W.heap.size, _, _, _, _, _, _, _, _, _, _, _, _, _, _, _, _, _, _, _, _, _, _, _, _, _, _, _, _, _, _, rfl, by omega, by omega, ct1, F.next hB1, hL1, below_in hBV hB1⟩
    case stop_0 =>
      rintro D c pre o W hD _ hsp ⟨rfl, hor⟩ hKD _
      rcases hor with ⟨rfl, h⟩ | ⟨⟨rfl, hx1, hx2, hx3, hpre⟩, hn, hB⟩
      · exact absurd hsp h
      have hple := hpre.length_le
      rw [List.length_map] at hple
      have hmin : ((pre.length : Int) != min (zs.length : Int) (max 1 many)) = false := by
        rw [bne_eq_false_iff_eq]; rcases hx2 with h | h <;> omega
      have cn := hn.one
      have cq := (F.q.below hB F.q.lt).one
      have cty := (ct.below hB ct.lt).one
      have cmx := (F.m.below hB F.m.lt).one
      have lt0 := hB.size
      gi_wp2
      all_goals
        obtain ⟨V1, hV1⟩ : ∃ V1, W.alloc (.cells #[.int .i64 1] 3) = V1 := ⟨_, rfl⟩
        rw [hV1]
        have hB1 : Below V.heap.size V V1 := by rw [← hV1]; exact hB.alloc hB.size _
        have ct1 : Blk V1 W.heap.size 3 #[.int .i64 (1 : Nat)] := by rw [← hV1]; exact Blk.new _ _ _
        have hlD := (Array.getElem?_eq_some_iff.1 hKD).1
        have hD1 : V1.heap[D]? = some (.deferred (some [])) := by rw [← hV1]; exact (Below.heap_alloc W _ D hlD).trans hKD
        have hL1 := hLeft.more hB1 (by have := hW.size; simp at hD; omega) (by simp at hD; omega) hD1
        have hz := fun (z11 z12 z26 z27 z28 z29 z30 z31 z32 z64 z65 z66 z67 z68 z69 z70 z71 z72 z73 z74 z75 z76 z77 z78 z79 z80 z81 z82 z83 z84 z85 : Value) hr => hK 1 [z11, z12, z26, z27, z28, z29, z30, z31, z32, z64, z65, z66, z67, z68, z69, z70, z71, z72, z73, z74, z75, z76, z77, z78, z79, z80, z81, z82, z83, z84, z85] (D :: Ds) V1 (by omega) hr
        simp only [sets, List.setIfInBounds_toArray, List.set_cons_zero, List.set_cons_succ] at hz
        refine hz _ _ _ _ _ _ _ _ _ _ _ _ _ _ _ _ _ _ _ _ _ _ _ _ _ _ _ _ _ _ _ ⟨1, W.heap.size, _, _, _, _, _, _, _, _, _, _, _, _, _, _, _, _, _, _, _, _, _, _, _, _, _, _, _, _, _, _, rfl, by omega, by omega, ct1, F.next hB1, hL1, below_in hBV hB1⟩
  · gi_wp2_with fail
    have hnb : Blk (V.alloc (.cells #[.int .i64 0] 3)) V.heap.size 3 #[.int .i64 (([] : List ((Int × Int) × Value)).length : Int)] := Blk.new _ _ _
    refine wpIn_rangeBoxB rfl (by omega) (gf := gf) (pa := pa) (lb := lb) rfl trivial eg (hg 19 (by omega)) (fun h h' => h.trans h') (fun W l o hl _ hlp => ⟨Keep.putFar W (by simp at hl; omega) o, fun h => laid_put h hlp o⟩) (below_in (below_in hB70 hBV) (below_one V _)) (fun _ => rfl)
      (fun pre o W => o = none ∧ (pre.map (·.1) <+: zs ∧ True) ∧ Told V.heap.size V pre W)
      (fun c pre o W => o = none ∧ ((c = .ret ∧ ¬ (pre.map (·.1) <+: zs)) ∨ (False ∧ Told V.heap.size V pre W)))
      ?hI_1 ?hIx_1 none (fun b e => by cases e) ⟨rfl, ⟨List.nil_prefix, trivial⟩, hnb, below_one V _⟩
      (fun x W => LineOk k p zs x W) (fun x W l ob hl h => by obtain ⟨r, hr⟩ := hl; exact LineOk.put hr h) 26 (fun x : (Int × Int) × Value => #[.int .i64 x.1.1, .int .i64 x.1.2]) ?a1_1
      ?assign_1 (fun pre o W h => by rw [h.1]; exact rowO_none W) (fun c pre o W h => by rw [h.1]; exact rowO_none W) ?body_1 ?done_1 ?stop_1
    case hI_1 =>
      rintro s o X Y row ⟨rfl, hp, ht⟩ hgr hr
      exact ⟨rfl, hp, told_grown ht (by simp) (by simp) hgr hr⟩
    case hIx_1 =>
      rintro c s o X Y row ⟨rfl, h⟩ hgr hr
      exact ⟨rfl, h.imp id fun h => ⟨h.1, told_grown h.2 (by simp) (by simp) hgr hr⟩⟩
    case assign_1 =>
      rintro l' pre x o W K hsz hol ⟨rfl, hp, hn, hB⟩ hok hK
      gi_wp2
      have hbx := Blk.new W 26 #[.int .i64 x.1.1, .int .i64 x.1.2]
      have hBz := below_one W (.cells #[.int .i64 x.1.1, .int .i64 x.1.2] 26)
      have hsn := hn.lt
      have hSi : SinceO (V.alloc (.cells #[.int .i64 0] 3)).heap.size none W (W.alloc (.cells #[.int .i64 x.1.1, .int .i64 x.1.2] 26)) := SinceO.below hBz
      have hKe : KeepL W6.heap.size (w7.heap.size - W6.heap.size) W (W.alloc (.cells #[.int .i64 x.1.1, .int .i64 x.1.2] 26)) := ⟨Keep.alloc (by omega) _, fun h => h.next hBz⟩
      have hTo : Told V.heap.size V pre (W.alloc (.cells #[.int .i64 x.1.1, .int .i64 x.1.2] 26)) := ⟨hn.alloc _, hB.alloc hB.size _⟩
      have hok2 : LineOk k p zs x (W.alloc (.cells #[.int .i64 x.1.1, .int .i64 x.1.2] 26)) := ⟨hok.1, hok.2.next hBz⟩
      clear hBz hok
      generalize W.alloc (.cells #[.int .i64 x.1.1, .int .i64 x.1.2] 26) = W' at *
      generalize W.heap.size = Bx at *
      exact hK Bx W' hSi hKe ⟨by first | rfl | trivial, hp, hTo⟩ hbx (by simp) hsz hok2
    case body_1 =>
      rintro l' pre x o Bx W hsz ⟨rfl, ⟨hpre, hcnd⟩, hn, hB⟩ hbx hne hle hok hlt
      obtain ⟨⟨zx, zy⟩, zv⟩ := x
      simp only at hbx
      have hple := hpre.length_le
      rw [List.length_map] at hple
      have cn := hn.one
      have fn := hn.frozen 0
      have cq := (F.q.below hB F.q.lt).one
      have cty := (ct.below hB ct.lt).one
      have cmx := (F.m.below hB F.m.lt).one
      have crx := (F.r.below hB F.r.lt).one
      have frx := (F.r.below hB F.r.lt).frozen 0
      have c0 := (F.b0.below hB F.b0.lt).cell 0
      have c1 := (F.b0.below hB F.b0.lt).cell 1
      have z0 := hbx.cell 0
      have z1 := hbx.cell 1
      simp only [List.getElem?_toArray, List.getElem?_cons_zero, List.getElem?_cons_succ] at c0 c1 z0 z1
      have hbs := hB.size
      have hX := Below.refl W.heap.size W
      rcases Nat.lt_or_ge pre.length zs.length with hlz | hlz
      · have dp : decide ((zs.length : Int) ≤ (pre.length : Int)) = false := decide_eq_false (by omega)
        obtain ⟨gq, rfl, hgq, q0, q1⟩ : ∃ gq, wq = some ⟨gq, 0, none⟩ ∧ gq < V.heap.size ∧ V.cell? ⟨gq, pre.length * 2, none⟩ = some (.int .i64 (zs[pre.length]).1) ∧ V.cell? ⟨gq, pre.length * 2 + 1, none⟩ = some (.int .i64 (zs[pre.length]).2) := by obtain ⟨pq, cq2, e, hc⟩ := F.rd; obtain ⟨g2, e2, h1, h2, h3⟩ := hc _ hlz; injection e with e3 _ _; exact ⟨g2, e3.trans e2, h1, h2, h3⟩
        replace q0 := nextc q0 hB
        replace q1 := nextc q1 hB
        have i1 : (0 : Int) ≤ (pre.length : Int) := by omega
        have i2 : (pre.length : Int) < (zs.length : Int) := by omega
        have hpe := fun h => prefix_elem (x := ((zx, zy), zv)) hpre hlz h
        have hpn := fun (h : ((zx, zy) : Int × Int) ≠ zs[pre.length]) => prefix_not (x := ((zx, zy), zv)) (zs := zs) (pre := pre) (fun _ => h)
        generalize zs[pre.length] = z at *
        obtain ⟨qx, qy⟩ := z
        simp only at q0 q1 hpe
        by_cases ex : zx = qx
        · subst ex
          by_cases ey : zy = qy
          · subst ey
            have HPE := Lib.hid (hpe rfl)
            clear hpe hpn
            have hzm := hok.1
            have HRMz := Lib.hid (HRM.out (zx, zy) hzm)
            have hln := HMl.out (zx, zy) hzm
            have hrd := hok.2.readA
            simp only at HRMz hln hrd
            clear hok hzm
            generalize memL k p zx zy = ml at *
            gi_wp2_with fail
            have hS : (fun U : World => U.cell? ⟨V.heap.size, 0, none⟩ = some (.int .i64 (pre.length : Int)) ∧ U.cell? ⟨w.heap.size + 1 + 1 + 1 + 1 + 1, 0, none⟩ = some (.slice (some ⟨gq, 0, none⟩) zs.length wcap) ∧ U.cell? ⟨Bx, 0, none⟩ = some (.int .i64 zx) ∧ U.cell? ⟨Bx, 1, none⟩ = some (.int .i64 zy) ∧ U.cell? ⟨w.heap.size, 0, none⟩ = some (.int .i64 k) ∧ U.cell? ⟨w.heap.size, 1, none⟩ = some (.int .i64 p) ∧ U.cell? ⟨gq, pre.length * 2, none⟩ = some (.int .i64 zx) ∧ U.cell? ⟨gq, pre.length * 2 + 1, none⟩ = some (.int .i64 zy)) W.drew := ⟨cn, cq, z0, z1, c0, c1, q0, q1⟩
            refine region_HF (S := (fun U : World => U.cell? ⟨V.heap.size, 0, none⟩ = some (.int .i64 (pre.length : Int)) ∧ U.cell? ⟨w.heap.size + 1 + 1 + 1 + 1 + 1, 0, none⟩ = some (.slice (some ⟨gq, 0, none⟩) zs.length wcap) ∧ U.cell? ⟨Bx, 0, none⟩ = some (.int .i64 zx) ∧ U.cell? ⟨Bx, 1, none⟩ = some (.int .i64 zy) ∧ U.cell? ⟨w.heap.size, 0, none⟩ = some (.int .i64 k) ∧ U.cell? ⟨w.heap.size, 1, none⟩ = some (.int .i64 p) ∧ U.cell? ⟨gq, pre.length * 2, none⟩ = some (.int .i64 zx) ∧ U.cell? ⟨gq, pre.length * 2 + 1, none⟩ = some (.int .i64 zy))) (by kernel_rfl) ?_
            refine anyHF_take (i := 0) (d := 35) (v := .int .i64 (pre.length : Int)) (by kernel_rfl) rfl (by kernel_rfl) (by kernel_rfl) (by kernel_rfl) rfl (fun _ _ _ h => h) ⟨Or.inl ⟨by rfl, fun w hS => by obtain ⟨h0, h1, h2, h3, h4, h5, h6, h7⟩ := hS; go_simp⟩, fun _ => rfl⟩ hS ?_
            simp only [List.setIfInBounds_toArray, List.set_cons_zero, List.set_cons_succ]
            refine anyHF_take (i := 1) (d := 36) (v := .slice (some ⟨gq, 0, none⟩) zs.length wcap) (by kernel_rfl) rfl (by kernel_rfl) (by kernel_rfl) (by kernel_rfl) rfl (fun _ _ _ h => h) ⟨Or.inl ⟨by rfl, fun w hS => by obtain ⟨h0, h1, h2, h3, h4, h5, h6, h7⟩ := hS; go_simp⟩, fun _ => rfl⟩ hS ?_
            simp only [List.setIfInBounds_toArray, List.set_cons_zero, List.set_cons_succ]
            refine anyHF_one (i := 2) (by kernel_rfl) rfl (by kernel_rfl) (by rfl) ?_
            gi_wp2
            refine anyHF_take (i := 3) (d := 38) (v := .bool false) (by kernel_rfl) rfl (by kernel_rfl) (by kernel_rfl) (by kernel_rfl) rfl (fun _ _ _ h => h) ⟨Or.inl ⟨by rfl, fun w hS => by obtain ⟨h0, h1, h2, h3, h4, h5, h6, h7⟩ := hS; go_simp⟩, fun _ => rfl⟩ hS ?_
            simp only [List.setIfInBounds_toArray, List.set_cons_zero, List.set_cons_succ]
            refine anyHF_take (i := 4) (d := 39) (v := .bool false) (by kernel_rfl) rfl (by kernel_rfl) (by kernel_rfl) (by kernel_rfl) rfl (fun _ _ _ h => h) ⟨Or.inl ⟨by rfl, fun w hS => by obtain ⟨h0, h1, h2, h3, h4, h5, h6, h7⟩ := hS; go_simp⟩, fun _ => rfl⟩ hS ?_
            simp only [List.setIfInBounds_toArray, List.set_cons_zero, List.set_cons_succ]
            refine anyHF_take (i := 5) (d := 40) (v := .agg #[.int .i64 zx, .int .i64 zy]) (by kernel_rfl) rfl (by kernel_rfl) (by kernel_rfl) (by kernel_rfl) rfl (fun _ _ _ h => h) ⟨Or.inl ⟨by rfl, fun w hS => by obtain ⟨h0, h1, h2, h3, h4, h5, h6, h7⟩ := hS; go_simp⟩, fun _ => rfl⟩ hS ?_
            simp only [List.setIfInBounds_toArray, List.set_cons_zero, List.set_cons_succ]
            refine anyHF_take (i := 6) (d := 41) (v := .slice (some ⟨gq, 0, none⟩) zs.length wcap) (by kernel_rfl) rfl (by kernel_rfl) (by kernel_rfl) (by kernel_rfl) rfl (fun _ _ _ h => h) ⟨Or.inl ⟨by rfl, fun w hS => by obtain ⟨h0, h1, h2, h3, h4, h5, h6, h7⟩ := hS; go_simp⟩, fun _ => rfl⟩ hS ?_
            simp only [List.setIfInBounds_toArray, List.set_cons_zero, List.set_cons_succ]
            refine anyHF_take (i := 7) (d := 42) (v := .int .i64 (pre.length : Int)) (by kernel_rfl) rfl (by kernel_rfl) (by kernel_rfl) (by kernel_rfl) rfl (fun _ _ _ h => h) ⟨Or.inl ⟨by rfl, fun w hS => by obtain ⟨h0, h1, h2, h3, h4, h5, h6, h7⟩ := hS; go_simp⟩, fun _ => rfl⟩ hS ?_
            simp only [List.setIfInBounds_toArray, List.set_cons_zero, List.set_cons_succ]
            refine anyHF_take (i := 8) (d := 43) (v := .pointer (some ⟨gq, pre.length * 2, none⟩)) (by kernel_rfl) rfl (by kernel_rfl) (by kernel_rfl) (by kernel_rfl) rfl (fun _ _ _ h => h) ⟨Or.inl ⟨by rfl, fun w hS => by obtain ⟨h0, h1, h2, h3, h4, h5, h6, h7⟩ := hS; go_simp⟩, fun _ => rfl⟩ hS ?_
            simp only [List.setIfInBounds_toArray, List.set_cons_zero, List.set_cons_succ]
            refine anyHF_take (i := 9) (d := 44) (v := .agg #[.int .i64 zx, .int .i64 zy]) (by kernel_rfl) rfl (by kernel_rfl) (by kernel_rfl) (by kernel_rfl) rfl (fun _ _ _ h => h) ⟨Or.inl ⟨by rfl, fun w hS => by obtain ⟨h0, h1, h2, h3, h4, h5, h6, h7⟩ := hS; go_simp⟩, fun _ => rfl⟩ hS ?_
            simp only [List.setIfInBounds_toArray, List.set_cons_zero, List.set_cons_succ]
            refine anyHF_take (i := 10) (d := 45) (v := .bool false) (by kernel_rfl) rfl (by kernel_rfl) (by kernel_rfl) (by kernel_rfl) rfl (fun _ _ _ h => h) ⟨Or.inl ⟨by rfl, fun w hS => by obtain ⟨h0, h1, h2, h3, h4, h5, h6, h7⟩ := hS; go_simp⟩, fun _ => rfl⟩ hS ?_
            simp only [List.setIfInBounds_toArray, List.set_cons_zero, List.set_cons_succ]
            refine anyHF_take (i := 11) (d := 46) (v := .bool false) (by kernel_rfl) rfl (by kernel_rfl) (by kernel_rfl) (by kernel_rfl) rfl (fun _ _ _ h => h) ⟨Or.inl ⟨by rfl, fun w hS => by obtain ⟨h0, h1, h2, h3, h4, h5, h6, h7⟩ := hS; go_simp⟩, fun _ => rfl⟩ hS ?_
            simp only [List.setIfInBounds_toArray, List.set_cons_zero, List.set_cons_succ]
            refine anyHF_take (i := 12) (d := 47) (v := .bool false) (by kernel_rfl) rfl (by kernel_rfl) (by kernel_rfl) (by kernel_rfl) rfl (fun _ _ _ h => h) ⟨Or.inl ⟨by rfl, fun w hS => by obtain ⟨h0, h1, h2, h3, h4, h5, h6, h7⟩ := hS; go_simp⟩, fun _ => rfl⟩ hS ?_
            simp only [List.setIfInBounds_toArray, List.set_cons_zero, List.set_cons_succ]
            refine anyHF_take (i := 13) (d := 48) (v := zv) (by kernel_rfl) rfl (by kernel_rfl) (by kernel_rfl) (by kernel_rfl) rfl (fun _ _ _ h => h) ⟨Or.inl ⟨by rfl, fun w hS => by obtain ⟨h0, h1, h2, h3, h4, h5, h6, h7⟩ := hS; go_simp⟩, fun _ => rfl⟩ hS ?_
            simp only [List.setIfInBounds_toArray, List.set_cons_zero, List.set_cons_succ]
            refine anyHF_take (i := 14) (d := 49) (v := .agg #[.int .i64 k, .int .i64 p]) (by kernel_rfl) rfl (by kernel_rfl) (by kernel_rfl) (by kernel_rfl) rfl (fun _ _ _ h => h) ⟨Or.inl ⟨by rfl, fun w hS => by obtain ⟨h0, h1, h2, h3, h4, h5, h6, h7⟩ := hS; go_simp⟩, fun _ => rfl⟩ hS ?_
            simp only [List.setIfInBounds_toArray, List.set_cons_zero, List.set_cons_succ]
            refine anyHF_take (i := 15) (d := 50) (v := .agg #[.int .i64 zx, .int .i64 zy]) (by kernel_rfl) rfl (by kernel_rfl) (by kernel_rfl) (by kernel_rfl) rfl (fun _ _ _ h => h) ⟨Or.inl ⟨by rfl, fun w hS => by obtain ⟨h0, h1, h2, h3, h4, h5, h6, h7⟩ := hS; go_simp⟩, fun _ => rfl⟩ hS ?_
            simp only [List.setIfInBounds_toArray, List.set_cons_zero, List.set_cons_succ]
            refine anyHF_one (i := 16) (by kernel_rfl) rfl (by kernel_rfl) (by rfl) ?_
            gi_wp2_with fail
            refine ⟨trivial, (CallsIn.inRound l' (callsIn_wide.2 (HRMz.out _))).mono ?_⟩
            rintro e X2 ⟨v2, rfl, ho2, hB2⟩
            replace hB2 := below_undrew hB2
            have hX2 := below_in hX hB2
            replace hX := hX2
            clear hX2 hS
            replace cn := nextc cn hB2
            replace cq := nextc cq hB2
            replace z0 := nextc z0 hB2
            replace z1 := nextc z1 hB2
            replace c0 := nextc c0 hB2
            replace c1 := nextc c1 hB2
            replace q0 := nextc q0 hB2
            replace q1 := nextc q1 hB2
            have hr2 := ho2.readA
            replace hrd := hrd.next hB2
            clear ho2 HRMz
            have hS : (fun U : World => U.cell? ⟨V.heap.size, 0, none⟩ = some (.int .i64 (pre.length : Int)) ∧ U.cell? ⟨w.heap.size + 1 + 1 + 1 + 1 + 1, 0, none⟩ = some (.slice (some ⟨gq, 0, none⟩) zs.length wcap) ∧ U.cell? ⟨Bx, 0, none⟩ = some (.int .i64 zx) ∧ U.cell? ⟨Bx, 1, none⟩ = some (.int .i64 zy) ∧ U.cell? ⟨w.heap.size, 0, none⟩ = some (.int .i64 k) ∧ U.cell? ⟨w.heap.size, 1, none⟩ = some (.int .i64 p) ∧ U.cell? ⟨gq, pre.length * 2, none⟩ = some (.int .i64 zx) ∧ U.cell? ⟨gq, pre.length * 2 + 1, none⟩ = some (.int .i64 zy)) _ := ⟨cn, cq, z0, z1, c0, c1, q0, q1⟩
            gi_wp2
            refine anyHF_one (i := 17) (by kernel_rfl) rfl (by kernel_rfl) (by rfl) ?_
            gi_wp2_with fail
            refine ⟨trivial, (CallsIn.inRound l' (callsIn_wide.2 (same_yes _ _ ml hln _ hrd hr2))).mono ?_⟩
            rintro e X3 ⟨rfl, hB2⟩
            have hX2 := below_in hX hB2
            replace hX := hX2
            clear hX2 hS
            replace cn := nextc cn hB2
            replace cq := nextc cq hB2
            replace z0 := nextc z0 hB2
            replace z1 := nextc z1 hB2
            replace c0 := nextc c0 hB2
            replace c1 := nextc c1 hB2
            replace q0 := nextc q0 hB2
            replace q1 := nextc q1 hB2
            clear hrd hr2
            have hS : (fun U : World => U.cell? ⟨V.heap.size, 0, none⟩ = some (.int .i64 (pre.length : Int)) ∧ U.cell? ⟨w.heap.size + 1 + 1 + 1 + 1 + 1, 0, none⟩ = some (.slice (some ⟨gq, 0, none⟩) zs.length wcap) ∧ U.cell? ⟨Bx, 0, none⟩ = some (.int .i64 zx) ∧ U.cell? ⟨Bx, 1, none⟩ = some (.int .i64 zy) ∧ U.cell? ⟨w.heap.size, 0, none⟩ = some (.int .i64 k) ∧ U.cell? ⟨w.heap.size, 1, none⟩ = some (.int .i64 p) ∧ U.cell? ⟨gq, pre.length * 2, none⟩ = some (.int .i64 zx) ∧ U.cell? ⟨gq, pre.length * 2 + 1, none⟩ = some (.int .i64 zy)) _ := ⟨cn, cq, z0, z1, c0, c1, q0, q1⟩
            gi_wp2
            refine anyHF_take (i := 18) (d := 53) (v := .bool false) (by kernel_rfl) rfl (by kernel_rfl) (by kernel_rfl) (by kernel_rfl) rfl (fun _ _ _ h => h) ⟨Or.inl ⟨by rfl, fun w hS => by obtain ⟨h0, h1, h2, h3, h4, h5, h6, h7⟩ := hS; go_simp⟩, fun _ => rfl⟩ hS ?_
            simp only [List.setIfInBounds_toArray, List.set_cons_zero, List.set_cons_succ]
            refine anyHF_take (i := 19) (d := 54) (v := .bool false) (by kernel_rfl) rfl (by kernel_rfl) (by kernel_rfl) (by kernel_rfl) rfl (fun _ _ _ h => h) ⟨Or.inl ⟨by rfl, fun w hS => by obtain ⟨h0, h1, h2, h3, h4, h5, h6, h7⟩ := hS; go_simp⟩, fun _ => rfl⟩ hS ?_
            simp only [List.setIfInBounds_toArray, List.set_cons_zero, List.set_cons_succ]
            refine anyHF_done (by kernel_rfl) ?_ _
            have hBX := below_in hB hX
            replace hn := hn.below hX hn.lt
            have fn := hn.frozen 0
            replace cty := nextc cty hX
            replace cmx := nextc cmx hX
            have hsX := hX.size
            have hl1 : ((pre ++ [((zx, zy), zv)]).length : Int) = (pre.length : Int) + 1 := by rw [List.length_append]; rfl
            have HL1 := Lib.hid hl1
            have hBS : Hid (Below V.heap.size V (X3.setCell ⟨V.heap.size, 0, none⟩ (.int .i64 ((pre.length : Int) + 1)))) := by exact hBX.setCell (by simp) _
            have HT : Hid (Told V.heap.size V (pre ++ [((zx, zy), zv)]) (X3.setCell ⟨V.heap.size, 0, none⟩ (.int .i64 ((pre.length : Int) + 1)))) := by
              refine ⟨?_, hBS.out⟩
              rw [hl1]
              exact hn.set_ 0 _
            have hSi : Hid (SinceO (V.alloc (.cells #[.int .i64 0] 3)).heap.size none W (X3.setCell ⟨V.heap.size, 0, none⟩ (.int .i64 ((pre.length : Int) + 1)))) := by exact (SinceO.below hX).trans_ (sinceO_set _ (by simp) _ _)
            have hKe : Hid (KeepL W6.heap.size (w7.heap.size - W6.heap.size) W (X3.setCell ⟨V.heap.size, 0, none⟩ (.int .i64 ((pre.length : Int) + 1)))) := by exact ⟨(Keep.below hX (by omega)).trans (Keep.setFar _ (by simp; omega) _), fun _ => F.hL.next hBS.out⟩
            clear hl1 hS
            gi_wp2
            exact ⟨none, .inl rfl, (by simpa using hSi.out), hKe.out, rfl, ⟨HPE.out, trivial⟩, HT.out⟩
          · have HPN := Lib.hid (hpn (fun e => ey (by injection e)))
            clear hpe hpn
            gi_wp2_with fail
            have hS : (fun U : World => U.cell? ⟨V.heap.size, 0, none⟩ = some (.int .i64 (pre.length : Int)) ∧ U.cell? ⟨w.heap.size + 1 + 1 + 1 + 1 + 1, 0, none⟩ = some (.slice (some ⟨gq, 0, none⟩) zs.length wcap) ∧ U.cell? ⟨Bx, 0, none⟩ = some (.int .i64 zx) ∧ U.cell? ⟨Bx, 1, none⟩ = some (.int .i64 zy) ∧ U.cell? ⟨w.heap.size, 0, none⟩ = some (.int .i64 k) ∧ U.cell? ⟨w.heap.size, 1, none⟩ = some (.int .i64 p) ∧ U.cell? ⟨gq, pre.length * 2, none⟩ = some (.int .i64 zx) ∧ U.cell? ⟨gq, pre.length * 2 + 1, none⟩ = some (.int .i64 qy)) W.drew := ⟨cn, cq, z0, z1, c0, c1, q0, q1⟩
            refine region_HF (S := (fun U : World => U.cell? ⟨V.heap.size, 0, none⟩ = some (.int .i64 (pre.length : Int)) ∧ U.cell? ⟨w.heap.size + 1 + 1 + 1 + 1 + 1, 0, none⟩ = some (.slice (some ⟨gq, 0, none⟩) zs.length wcap) ∧ U.cell? ⟨Bx, 0, none⟩ = some (.int .i64 zx) ∧ U.cell? ⟨Bx, 1, none⟩ = some (.int .i64 zy) ∧ U.cell? ⟨w.heap.size, 0, none⟩ = some (.int .i64 k) ∧ U.cell? ⟨w.heap.size, 1, none⟩ = some (.int .i64 p) ∧ U.cell? ⟨gq, pre.length * 2, none⟩ = some (.int .i64 zx) ∧ U.cell? ⟨gq, pre.length * 2 + 1, none⟩ = some (.int .i64 qy))) (by kernel_rfl) ?_
            refine anyHF_take (i := 0) (d := 35) (v := .int .i64 (pre.length : Int)) (by kernel_rfl) rfl (by kernel_rfl) (by kernel_rfl) (by kernel_rfl) rfl (fun _ _ _ h => h) ⟨Or.inl ⟨by rfl, fun w hS => by obtain ⟨h0, h1, h2, h3, h4, h5, h6, h7⟩ := hS; go_simp⟩, fun _ => rfl⟩ hS ?_
            simp only [List.setIfInBounds_toArray, List.set_cons_zero, List.set_cons_succ]
            refine anyHF_take (i := 1) (d := 36) (v := .slice (some ⟨gq, 0, none⟩) zs.length wcap) (by kernel_rfl) rfl (by kernel_rfl) (by kernel_rfl) (by kernel_rfl) rfl (fun _ _ _ h => h) ⟨Or.inl ⟨by rfl, fun w hS => by obtain ⟨h0, h1, h2, h3, h4, h5, h6, h7⟩ := hS; go_simp⟩, fun _ => rfl⟩ hS ?_
            simp only [List.setIfInBounds_toArray, List.set_cons_zero, List.set_cons_succ]
            refine anyHF_one (i := 2) (by kernel_rfl) rfl (by kernel_rfl) (by rfl) ?_
            gi_wp2
            refine anyHF_take (i := 3) (d := 38) (v := .bool false) (by kernel_rfl) rfl (by kernel_rfl) (by kernel_rfl) (by kernel_rfl) rfl (fun _ _ _ h => h) ⟨Or.inl ⟨by rfl, fun w hS => by obtain ⟨h0, h1, h2, h3, h4, h5, h6, h7⟩ := hS; go_simp⟩, fun _ => rfl⟩ hS ?_
            simp only [List.setIfInBounds_toArray, List.set_cons_zero, List.set_cons_succ]
            refine anyHF_take (i := 4) (d := 39) (v := .bool false) (by kernel_rfl) rfl (by kernel_rfl) (by kernel_rfl) (by kernel_rfl) rfl (fun _ _ _ h => h) ⟨Or.inl ⟨by rfl, fun w hS => by obtain ⟨h0, h1, h2, h3, h4, h5, h6, h7⟩ := hS; go_simp⟩, fun _ => rfl⟩ hS ?_
            simp only [List.setIfInBounds_toArray, List.set_cons_zero, List.set_cons_succ]
            refine anyHF_take (i := 5) (d := 40) (v := .agg #[.int .i64 zx, .int .i64 zy]) (by kernel_rfl) rfl (by kernel_rfl) (by kernel_rfl) (by kernel_rfl) rfl (fun _ _ _ h => h) ⟨Or.inl ⟨by rfl, fun w hS => by obtain ⟨h0, h1, h2, h3, h4, h5, h6, h7⟩ := hS; go_simp⟩, fun _ => rfl⟩ hS ?_
            simp only [List.setIfInBounds_toArray, List.set_cons_zero, List.set_cons_succ]
            refine anyHF_take (i := 6) (d := 41) (v := .slice (some ⟨gq, 0, none⟩) zs.length wcap) (by kernel_rfl) rfl (by kernel_rfl) (by kernel_rfl) (by kernel_rfl) rfl (fun _ _ _ h => h) ⟨Or.inl ⟨by rfl, fun w hS => by obtain ⟨h0, h1, h2, h3, h4, h5, h6, h7⟩ := hS; go_simp⟩, fun _ => rfl⟩ hS ?_
            simp only [List.setIfInBounds_toArray, List.set_cons_zero, List.set_cons_succ]
            refine anyHF_take (i := 7) (d := 42) (v := .int .i64 (pre.length : Int)) (by kernel_rfl) rfl (by kernel_rfl) (by kernel_rfl) (by kernel_rfl) rfl (fun _ _ _ h => h) ⟨Or.inl ⟨by rfl, fun w hS => by obtain ⟨h0, h1, h2, h3, h4, h5, h6, h7⟩ := hS; go_simp⟩, fun _ => rfl⟩ hS ?_
            simp only [List.setIfInBounds_toArray, List.set_cons_zero, List.set_cons_succ]
            refine anyHF_take (i := 8) (d := 43) (v := .pointer (some ⟨gq, pre.length * 2, none⟩)) (by kernel_rfl) rfl (by kernel_rfl) (by kernel_rfl) (by kernel_rfl) rfl (fun _ _ _ h => h) ⟨Or.inl ⟨by rfl, fun w hS => by obtain ⟨h0, h1, h2, h3, h4, h5, h6, h7⟩ := hS; go_simp⟩, fun _ => rfl⟩ hS ?_
            simp only [List.setIfInBounds_toArray, List.set_cons_zero, List.set_cons_succ]
            refine anyHF_take (i := 9) (d := 44) (v := .agg #[.int .i64 zx, .int .i64 qy]) (by kernel_rfl) rfl (by kernel_rfl) (by kernel_rfl) (by kernel_rfl) rfl (fun _ _ _ h => h) ⟨Or.inl ⟨by rfl, fun w hS => by obtain ⟨h0, h1, h2, h3, h4, h5, h6, h7⟩ := hS; go_simp⟩, fun _ => rfl⟩ hS ?_
            simp only [List.setIfInBounds_toArray, List.set_cons_zero, List.set_cons_succ]
            refine anyHF_take (i := 10) (d := 45) (v := .bool true) (by kernel_rfl) rfl (by kernel_rfl) (by kernel_rfl) (by kernel_rfl) rfl (fun _ _ _ h => h) ⟨Or.inl ⟨by rfl, fun w hS => by obtain ⟨h0, h1, h2, h3, h4, h5, h6, h7⟩ := hS; go_simp⟩, fun _ => rfl⟩ hS ?_
            simp only [List.setIfInBounds_toArray, List.set_cons_zero, List.set_cons_succ]
            refine anyHF_take (i := 11) (d := 46) (v := .bool true) (by kernel_rfl) rfl (by kernel_rfl) (by kernel_rfl) (by kernel_rfl) rfl (fun _ _ _ h => h) ⟨Or.inl ⟨by rfl, fun w hS => by obtain ⟨h0, h1, h2, h3, h4, h5, h6, h7⟩ := hS; go_simp⟩, fun _ => rfl⟩ hS ?_
            simp only [List.setIfInBounds_toArray, List.set_cons_zero, List.set_cons_succ]
            refine anyHF_take (i := 12) (d := 47) (v := .bool true) (by kernel_rfl) rfl (by kernel_rfl) (by kernel_rfl) (by kernel_rfl) rfl (fun _ _ _ h => h) ⟨Or.inl ⟨by rfl, fun w hS => by obtain ⟨h0, h1, h2, h3, h4, h5, h6, h7⟩ := hS; go_simp⟩, fun _ => rfl⟩ hS ?_
            simp only [List.setIfInBounds_toArray, List.set_cons_zero, List.set_cons_succ]
            refine anyHF_take (i := 13) (d := 48) (v := undef) (by kernel_rfl) rfl (by kernel_rfl) (by kernel_rfl) (by kernel_rfl) rfl (fun _ _ _ h => h) ⟨Or.inr ⟨by rfl, rfl⟩, fun _ => rfl⟩ hS ?_
            simp only [List.setIfInBounds_toArray, List.set_cons_zero, List.set_cons_succ]
            refine anyHF_take (i := 14) (d := 49) (v := undef) (by kernel_rfl) rfl (by kernel_rfl) (by kernel_rfl) (by kernel_rfl) rfl (fun _ _ _ h => h) ⟨Or.inr ⟨by rfl, rfl⟩, fun _ => rfl⟩ hS ?_
            simp only [List.setIfInBounds_toArray, List.set_cons_zero, List.set_cons_succ]
            refine anyHF_take (i := 15) (d := 50) (v := undef) (by kernel_rfl) rfl (by kernel_rfl) (by kernel_rfl) (by kernel_rfl) rfl (fun _ _ _ h => h) ⟨Or.inr ⟨by rfl, rfl⟩, fun _ => rfl⟩ hS ?_
            simp only [List.setIfInBounds_toArray, List.set_cons_zero, List.set_cons_succ]
            refine anyHF_skip (i := 16) (d := 51) (by kernel_rfl) rfl (by rfl) rfl wide_fn hS ?_
            simp only [List.setIfInBounds_toArray, List.set_cons_zero, List.set_cons_succ]
            refine anyHF_skip (i := 17) (d := 52) (by kernel_rfl) rfl (by rfl) rfl wide_fn hS ?_
            simp only [List.setIfInBounds_toArray, List.set_cons_zero, List.set_cons_succ]
            refine anyHF_take (i := 18) (d := 53) (v := undef) (by kernel_rfl) rfl (by kernel_rfl) (by kernel_rfl) (by kernel_rfl) rfl (fun _ _ _ h => h) ⟨Or.inr ⟨by rfl, rfl⟩, fun _ => rfl⟩ hS ?_
            simp only [List.setIfInBounds_toArray, List.set_cons_zero, List.set_cons_succ]
            refine anyHF_take (i := 19) (d := 54) (v := .bool true) (by kernel_rfl) rfl (by kernel_rfl) (by kernel_rfl) (by kernel_rfl) rfl (fun _ _ _ h => h) ⟨Or.inl ⟨by rfl, fun w hS => by obtain ⟨h0, h1, h2, h3, h4, h5, h6, h7⟩ := hS; go_simp⟩, fun _ => rfl⟩ hS ?_
            simp only [List.setIfInBounds_toArray, List.set_cons_zero, List.set_cons_succ]
            refine anyHF_done (by kernel_rfl) ?_ _
            gi_wp2
            exact ⟨none, .inl rfl, sinceO_set _ (by simp; omega) _ _, rfl, .inl ⟨rfl, HPN.out⟩⟩
        · have HPN := Lib.hid (hpn (fun e => ex (by injection e)))
          clear hpe hpn
          gi_wp2_with fail
          have hS : (fun U : World => U.cell? ⟨V.heap.size, 0, none⟩ = some (.int .i64 (pre.length : Int)) ∧ U.cell? ⟨w.heap.size + 1 + 1 + 1 + 1 + 1, 0, none⟩ = some (.slice (some ⟨gq, 0, none⟩) zs.length wcap) ∧ U.cell? ⟨Bx, 0, none⟩ = some (.int .i64 zx) ∧ U.cell? ⟨Bx, 1, none⟩ = some (.int .i64 zy) ∧ U.cell? ⟨w.heap.size, 0, none⟩ = some (.int .i64 k) ∧ U.cell? ⟨w.heap.size, 1, none⟩ = some (.int .i64 p) ∧ U.cell? ⟨gq, pre.length * 2, none⟩ = some (.int .i64 qx) ∧ U.cell? ⟨gq, pre.length * 2 + 1, none⟩ = some (.int .i64 qy)) W.drew := ⟨cn, cq, z0, z1, c0, c1, q0, q1⟩
          refine region_HF (S := (fun U : World => U.cell? ⟨V.heap.size, 0, none⟩ = some (.int .i64 (pre.length : Int)) ∧ U.cell? ⟨w.heap.size + 1 + 1 + 1 + 1 + 1, 0, none⟩ = some (.slice (some ⟨gq, 0, none⟩) zs.length wcap) ∧ U.cell? ⟨Bx, 0, none⟩ = some (.int .i64 zx) ∧ U.cell? ⟨Bx, 1, none⟩ = some (.int .i64 zy) ∧ U.cell? ⟨w.heap.size, 0, none⟩ = some (.int .i64 k) ∧ U.cell? ⟨w.heap.size, 1, none⟩ = some (.int .i64 p) ∧ U.cell? ⟨gq, pre.length * 2, none⟩ = some (.int .i64 qx) ∧ U.cell? ⟨gq, pre.length * 2 + 1, none⟩ = some (.int .i64 qy))) (by kernel_rfl) ?_
          refine anyHF_take (i := 0) (d := 35) (v := .int .i64 (pre.length : Int)) (by kernel_rfl) rfl (by kernel_rfl) (by kernel_rfl) (by kernel_rfl) rfl (fun _ _ _ h => h) ⟨Or.inl ⟨by rfl, fun w hS => by obtain ⟨h0, h1, h2, h3, h4, h5, h6, h7⟩ := hS; go_simp⟩, fun _ => rfl⟩ hS ?_
          simp only [List.setIfInBounds_toArray, List.set_cons_zero, List.set_cons_succ]
          refine anyHF_take (i := 1) (d := 36) (v := .slice (some ⟨gq, 0, none⟩) zs.length wcap) (by kernel_rfl) rfl (by kernel_rfl) (by kernel_rfl) (by kernel_rfl) rfl (fun _ _ _ h => h) ⟨Or.inl ⟨by rfl, fun w hS => by obtain ⟨h0, h1, h2, h3, h4, h5, h6, h7⟩ := hS; go_simp⟩, fun _ => rfl⟩ hS ?_
          simp only [List.setIfInBounds_toArray, List.set_cons_zero, List.set_cons_succ]
          refine anyHF_one (i := 2) (by kernel_rfl) rfl (by kernel_rfl) (by rfl) ?_
          gi_wp2
          refine anyHF_take (i := 3) (d := 38) (v := .bool false) (by kernel_rfl) rfl (by kernel_rfl) (by kernel_rfl) (by kernel_rfl) rfl (fun _ _ _ h => h) ⟨Or.inl ⟨by rfl, fun w hS => by obtain ⟨h0, h1, h2, h3, h4, h5, h6, h7⟩ := hS; go_simp⟩, fun _ => rfl⟩ hS ?_
          simp only [List.setIfInBounds_toArray, List.set_cons_zero, List.set_cons_succ]
          refine anyHF_take (i := 4) (d := 39) (v := .bool false) (by kernel_rfl) rfl (by kernel_rfl) (by kernel_rfl) (by kernel_rfl) rfl (fun _ _ _ h => h) ⟨Or.inl ⟨by rfl, fun w hS => by obtain ⟨h0, h1, h2, h3, h4, h5, h6, h7⟩ := hS; go_simp⟩, fun _ => rfl⟩ hS ?_
          simp only [List.setIfInBounds_toArray, List.set_cons_zero, List.set_cons_succ]
          refine anyHF_take (i := 5) (d := 40) (v := .agg #[.int .i64 zx, .int .i64 zy]) (by kernel_rfl) rfl (by kernel_rfl) (by kernel_rfl) (by kernel_rfl) rfl (fun _ _ _ h => h) ⟨Or.inl ⟨by rfl, fun w hS => by obtain ⟨h0, h1, h2, h3, h4, h5, h6, h7⟩ := hS; go_simp⟩, fun _ => rfl⟩ hS ?_
          simp only [List.setIfInBounds_toArray, List.set_cons_zero, List.set_cons_succ]
          refine anyHF_take (i := 6) (d := 41) (v := .slice (some ⟨gq, 0, none⟩) zs.length wcap) (by kernel_rfl) rfl (by kernel_rfl) (by kernel_rfl) (by kernel_rfl) rfl (fun _ _ _ h => h) ⟨Or.inl ⟨by rfl, fun w hS => by obtain ⟨h0, h1, h2, h3, h4, h5, h6, h7⟩ := hS; go_simp⟩, fun _ => rfl⟩ hS ?_
          simp only [List.setIfInBounds_toArray, List.set_cons_zero, List.set_cons_succ]
          refine anyHF_take (i := 7) (d := 42) (v := .int .i64 (pre.length : Int)) (by kernel_rfl) rfl (by kernel_rfl) (by kernel_rfl) (by kernel_rfl) rfl (fun _ _ _ h => h) ⟨Or.inl ⟨by rfl, fun w hS => by obtain ⟨h0, h1, h2, h3, h4, h5, h6, h7⟩ := hS; go_simp⟩, fun _ => rfl⟩ hS ?_
          simp only [List.setIfInBounds_toArray, List.set_cons_zero, List.set_cons_succ]
          refine anyHF_take (i := 8) (d := 43) (v := .pointer (some ⟨gq, pre.length * 2, none⟩)) (by kernel_rfl) rfl (by kernel_rfl) (by kernel_rfl) (by kernel_rfl) rfl (fun _ _ _ h => h) ⟨Or.inl ⟨by rfl, fun w hS => by obtain ⟨h0, h1, h2, h3, h4, h5, h6, h7⟩ := hS; go_simp⟩, fun _ => rfl⟩ hS ?_
          simp only [List.setIfInBounds_toArray, List.set_cons_zero, List.set_cons_succ]
          refine anyHF_take (i := 9) (d := 44) (v := .agg #[.int .i64 qx, .int .i64 qy]) (by kernel_rfl) rfl (by kernel_rfl) (by kernel_rfl) (by kernel_rfl) rfl (fun _ _ _ h => h) ⟨Or.inl ⟨by rfl, fun w hS => by obtain ⟨h0, h1, h2, h3, h4, h5, h6, h7⟩ := hS; go_simp⟩, fun _ => rfl⟩ hS ?_
          simp only [List.setIfInBounds_toArray, List.set_cons_zero, List.set_cons_succ]
          refine anyHF_take (i := 10) (d := 45) (v := .bool true) (by kernel_rfl) rfl (by kernel_rfl) (by kernel_rfl) (by kernel_rfl) rfl (fun _ _ _ h => h) ⟨Or.inl ⟨by rfl, fun w hS => by obtain ⟨h0, h1, h2, h3, h4, h5, h6, h7⟩ := hS; go_simp⟩, fun _ => rfl⟩ hS ?_
          simp only [List.setIfInBounds_toArray, List.set_cons_zero, List.set_cons_succ]
          refine anyHF_take (i := 11) (d := 46) (v := .bool true) (by kernel_rfl) rfl (by kernel_rfl) (by kernel_rfl) (by kernel_rfl) rfl (fun _ _ _ h => h) ⟨Or.inl ⟨by rfl, fun w hS => by obtain ⟨h0, h1, h2, h3, h4, h5, h6, h7⟩ := hS; go_simp⟩, fun _ => rfl⟩ hS ?_
          simp only [List.setIfInBounds_toArray, List.set_cons_zero, List.set_cons_succ]
          refine anyHF_take (i := 12) (d := 47) (v := .bool true) (by kernel_rfl) rfl (by kernel_rfl) (by kernel_rfl) (by kernel_rfl) rfl (fun _ _ _ h => h) ⟨Or.inl ⟨by rfl, fun w hS => by obtain ⟨h0, h1, h2, h3, h4, h5, h6, h7⟩ := hS; go_simp⟩, fun _ => rfl⟩ hS ?_
          simp only [List.setIfInBounds_toArray, List.set_cons_zero, List.set_cons_succ]
          refine anyHF_take (i := 13) (d := 48) (v := undef) (by kernel_rfl) rfl (by kernel_rfl) (by kernel_rfl) (by kernel_rfl) rfl (fun _ _ _ h => h) ⟨Or.inr ⟨by rfl, rfl⟩, fun _ => rfl⟩ hS ?_
          simp only [List.setIfInBounds_toArray, List.set_cons_zero, List.set_cons_succ]
          refine anyHF_take (i := 14) (d := 49) (v := undef) (by kernel_rfl) rfl (by kernel_rfl) (by kernel_rfl) (by kernel_rfl) rfl (fun _ _ _ h => h) ⟨Or.inr ⟨by rfl, rfl⟩, fun _ => rfl⟩ hS ?_
          simp only [List.setIfInBounds_toArray, List.set_cons_zero, List.set_cons_succ]
          refine anyHF_take (i := 15) (d := 50) (v := undef) (by kernel_rfl) rfl (by kernel_rfl) (by kernel_rfl) (by kernel_rfl) rfl (fun _ _ _ h => h) ⟨Or.inr ⟨by rfl, rfl⟩, fun _ => rfl⟩ hS ?_
          simp only [List.setIfInBounds_toArray, List.set_cons_zero, List.set_cons_succ]
          refine anyHF_skip (i := 16) (d := 51) (by kernel_rfl) rfl (by rfl) rfl wide_fn hS ?_
          simp only [List.setIfInBounds_toArray, List.set_cons_zero, List.set_cons_succ]
          refine anyHF_skip (i := 17) (d := 52) (by kernel_rfl) rfl (by rfl) rfl wide_fn hS ?_
          simp only [List.setIfInBounds_toArray, List.set_cons_zero, List.set_cons_succ]
          refine anyHF_take (i := 18) (d := 53) (v := undef) (by kernel_rfl) rfl (by kernel_rfl) (by kernel_rfl) (by kernel_rfl) rfl (fun _ _ _ h => h) ⟨Or.inr ⟨by rfl, rfl⟩, fun _ => rfl⟩ hS ?_
          simp only [List.setIfInBounds_toArray, List.set_cons_zero, List.set_cons_succ]
          refine anyHF_take (i := 19) (d := 54) (v := .bool true) (by kernel_rfl) rfl (by kernel_rfl) (by kernel_rfl) (by kernel_rfl) rfl (fun _ _ _ h => h) ⟨Or.inl ⟨by rfl, fun w hS => by obtain ⟨h0, h1, h2, h3, h4, h5, h6, h7⟩ := hS; go_simp⟩, fun _ => rfl⟩ hS ?_
          simp only [List.setIfInBounds_toArray, List.set_cons_zero, List.set_cons_succ]
          refine anyHF_done (by kernel_rfl) ?_ _
          gi_wp2
          exact ⟨none, .inl rfl, sinceO_set _ (by simp; omega) _ _, rfl, .inl ⟨rfl, HPN.out⟩⟩
      · have dp : decide ((zs.length : Int) ≤ (pre.length : Int)) = true := decide_eq_true (by omega)
        have HN := Lib.hid (prefix_not (zs := zs) (pre := pre) (x := ((zx, zy), zv)) (fun h => by omega))
        gi_wp2_with fail
        have hS : (fun U : World => U.cell? ⟨V.heap.size, 0, none⟩ = some (.int .i64 (pre.length : Int)) ∧ U.cell? ⟨w.heap.size + 1 + 1 + 1 + 1 + 1, 0, none⟩ = some (.slice wq zs.length wcap) ∧ U.cell? ⟨Bx, 0, none⟩ = some (.int .i64 zx) ∧ U.cell? ⟨Bx, 1, none⟩ = some (.int .i64 zy) ∧ U.cell? ⟨w.heap.size, 0, none⟩ = some (.int .i64 k) ∧ U.cell? ⟨w.heap.size, 1, none⟩ = some (.int .i64 p)) W.drew := ⟨cn, cq, z0, z1, c0, c1⟩
        refine region_HF (S := (fun U : World => U.cell? ⟨V.heap.size, 0, none⟩ = some (.int .i64 (pre.length : Int)) ∧ U.cell? ⟨w.heap.size + 1 + 1 + 1 + 1 + 1, 0, none⟩ = some (.slice wq zs.length wcap) ∧ U.cell? ⟨Bx, 0, none⟩ = some (.int .i64 zx) ∧ U.cell? ⟨Bx, 1, none⟩ = some (.int .i64 zy) ∧ U.cell? ⟨w.heap.size, 0, none⟩ = some (.int .i64 k) ∧ U.cell? ⟨w.heap.size, 1, none⟩ = some (.int .i64 p))) (by kernel_rfl) ?_
        refine anyHF_take (i := 0) (d := 35) (v := .int .i64 (pre.length : Int)) (by kernel_rfl) rfl (by kernel_rfl) (by kernel_rfl) (by kernel_rfl) rfl (fun _ _ _ h => h) ⟨Or.inl ⟨by rfl, fun w hS => by obtain ⟨h0, h1, h2, h3, h4, h5⟩ := hS; go_simp⟩, fun _ => rfl⟩ hS ?_
        simp only [List.setIfInBounds_toArray, List.set_cons_zero, List.set_cons_succ]
        refine anyHF_take (i := 1) (d := 36) (v := .slice wq zs.length wcap) (by kernel_rfl) rfl (by kernel_rfl) (by kernel_rfl) (by kernel_rfl) rfl (fun _ _ _ h => h) ⟨Or.inl ⟨by rfl, fun w hS => by obtain ⟨h0, h1, h2, h3, h4, h5⟩ := hS; go_simp⟩, fun _ => rfl⟩ hS ?_
        simp only [List.setIfInBounds_toArray, List.set_cons_zero, List.set_cons_succ]
        refine anyHF_one (i := 2) (by kernel_rfl) rfl (by kernel_rfl) (by rfl) ?_
        gi_wp2
        refine anyHF_take (i := 3) (d := 38) (v := .bool true) (by kernel_rfl) rfl (by kernel_rfl) (by kernel_rfl) (by kernel_rfl) rfl (fun _ _ _ h => h) ⟨Or.inl ⟨by rfl, fun w hS => by obtain ⟨h0, h1, h2, h3, h4, h5⟩ := hS; go_simp⟩, fun _ => rfl⟩ hS ?_
        simp only [List.setIfInBounds_toArray, List.set_cons_zero, List.set_cons_succ]
        refine anyHF_take (i := 4) (d := 39) (v := .bool true) (by kernel_rfl) rfl (by kernel_rfl) (by kernel_rfl) (by kernel_rfl) rfl (fun _ _ _ h => h) ⟨Or.inl ⟨by rfl, fun w hS => by obtain ⟨h0, h1, h2, h3, h4, h5⟩ := hS; go_simp⟩, fun _ => rfl⟩ hS ?_
        simp only [List.setIfInBounds_toArray, List.set_cons_zero, List.set_cons_succ]
        refine anyHF_take (i := 5) (d := 40) (v := undef) (by kernel_rfl) rfl (by kernel_rfl) (by kernel_rfl) (by kernel_rfl) rfl (fun _ _ _ h => h) ⟨Or.inr ⟨by rfl, rfl⟩, fun _ => rfl⟩ hS ?_
        simp only [List.setIfInBounds_toArray, List.set_cons_zero, List.set_cons_succ]
        refine anyHF_take (i := 6) (d := 41) (v := undef) (by kernel_rfl) rfl (by kernel_rfl) (by kernel_rfl) (by kernel_rfl) rfl (fun _ _ _ h => h) ⟨Or.inr ⟨by rfl, rfl⟩, fun _ => rfl⟩ hS ?_
        simp only [List.setIfInBounds_toArray, List.set_cons_zero, List.set_cons_succ]
        refine anyHF_take (i := 7) (d := 42) (v := undef) (by kernel_rfl) rfl (by kernel_rfl) (by kernel_rfl) (by kernel_rfl) rfl (fun _ _ _ h => h) ⟨Or.inr ⟨by rfl, rfl⟩, fun _ => rfl⟩ hS ?_
        simp only [List.setIfInBounds_toArray, List.set_cons_zero, List.set_cons_succ]
        refine anyHF_take (i := 8) (d := 43) (v := undef) (by kernel_rfl) rfl (by kernel_rfl) (by kernel_rfl) (by kernel_rfl) rfl (fun _ _ _ h => h) ⟨Or.inr ⟨by rfl, rfl⟩, fun _ => rfl⟩ hS ?_
        simp only [List.setIfInBounds_toArray, List.set_cons_zero, List.set_cons_succ]
        refine anyHF_take (i := 9) (d := 44) (v := undef) (by kernel_rfl) rfl (by kernel_rfl) (by kernel_rfl) (by kernel_rfl) rfl (fun _ _ _ h => h) ⟨Or.inr ⟨by rfl, rfl⟩, fun _ => rfl⟩ hS ?_
        simp only [List.setIfInBounds_toArray, List.set_cons_zero, List.set_cons_succ]
        refine anyHF_take (i := 10) (d := 45) (v := undef) (by kernel_rfl) rfl (by kernel_rfl) (by kernel_rfl) (by kernel_rfl) rfl (fun _ _ _ h => h) ⟨Or.inr ⟨by rfl, rfl⟩, fun _ => rfl⟩ hS ?_
        simp only [List.setIfInBounds_toArray, List.set_cons_zero, List.set_cons_succ]
        refine anyHF_take (i := 11) (d := 46) (v := .bool true) (by kernel_rfl) rfl (by kernel_rfl) (by kernel_rfl) (by kernel_rfl) rfl (fun _ _ _ h => h) ⟨Or.inl ⟨by rfl, fun w hS => by obtain ⟨h0, h1, h2, h3, h4, h5⟩ := hS; go_simp⟩, fun _ => rfl⟩ hS ?_
        simp only [List.setIfInBounds_toArray, List.set_cons_zero, List.set_cons_succ]
        refine anyHF_take (i := 12) (d := 47) (v := .bool true) (by kernel_rfl) rfl (by kernel_rfl) (by kernel_rfl) (by kernel_rfl) rfl (fun _ _ _ h => h) ⟨Or.inl ⟨by rfl, fun w hS => by obtain ⟨h0, h1, h2, h3, h4, h5⟩ := hS; go_simp⟩, fun _ => rfl⟩ hS ?_
        simp only [List.setIfInBounds_toArray, List.set_cons_zero, List.set_cons_succ]
        refine anyHF_take (i := 13) (d := 48) (v := undef) (by kernel_rfl) rfl (by kernel_rfl) (by kernel_rfl) (by kernel_rfl) rfl (fun _ _ _ h => h) ⟨Or.inr ⟨by rfl, rfl⟩, fun _ => rfl⟩ hS ?_
        simp only [List.setIfInBounds_toArray, List.set_cons_zero, List.set_cons_succ]
        refine anyHF_take (i := 14) (d := 49) (v := undef) (by kernel_rfl) rfl (by kernel_rfl) (by kernel_rfl) (by kernel_rfl) rfl (fun _ _ _ h => h) ⟨Or.inr ⟨by rfl, rfl⟩, fun _ => rfl⟩ hS ?_
        simp only [List.setIfInBounds_toArray, List.set_cons_zero, List.set_cons_succ]
        refine anyHF_take (i := 15) (d := 50) (v := undef) (by kernel_rfl) rfl (by kernel_rfl) (by kernel_rfl) (by kernel_rfl) rfl (fun _ _ _ h => h) ⟨Or.inr ⟨by rfl, rfl⟩, fun _ => rfl⟩ hS ?_
        simp only [List.setIfInBounds_toArray, List.set_cons_zero, List.set_cons_succ]
        refine anyHF_skip (i := 16) (d := 51) (by kernel_rfl) rfl (by rfl) rfl wide_fn hS ?_
        simp only [List.setIfInBounds_toArray, List.set_cons_zero, List.set_cons_succ]
        refine anyHF_skip (i := 17) (d := 52) (by kernel_rfl) rfl (by rfl) rfl wide_fn hS ?_
        simp only [List.setIfInBounds_toArray, List.set_cons_zero, List.set_cons_succ]
        refine anyHF_take (i := 18) (d := 53) (v := undef) (by kernel_rfl) rfl (by kernel_rfl) (by kernel_rfl) (by kernel_rfl) rfl (fun _ _ _ h => h) ⟨Or.inr ⟨by rfl, rfl⟩, fun _ => rfl⟩ hS ?_
        simp only [List.setIfInBounds_toArray, List.set_cons_zero, List.set_cons_succ]
        refine anyHF_take (i := 19) (d := 54) (v := .bool true) (by kernel_rfl) rfl (by kernel_rfl) (by kernel_rfl) (by kernel_rfl) rfl (fun _ _ _ h => h) ⟨Or.inl ⟨by rfl, fun w hS => by obtain ⟨h0, h1, h2, h3, h4, h5⟩ := hS; go_simp⟩, fun _ => rfl⟩ hS ?_
        simp only [List.setIfInBounds_toArray, List.set_cons_zero, List.set_cons_succ]
        refine anyHF_done (by kernel_rfl) ?_ _
        gi_wp2
        exact ⟨none, .inl rfl, sinceO_set _ (by simp; omega) _ _, rfl, .inl ⟨rfl, HN.out⟩⟩
    case done_1 =>
      rintro D ys o W hD _ hys ⟨rfl, ⟨hpre, hcnd⟩, hn, hB⟩ hKD _
      have hlen : (ys.length : Int) = (zs.length : Int) := by rw [← hys, List.length_map]
      rw [hlen] at hn
      have hne : ((zs.length : Int) != (zs.length : Int)) = false := by simp
      have cn := hn.one
      have cq := (F.q.below hB F.q.lt).one
      have cty := (ct.below hB ct.lt).one
      have cmx := (F.m.below hB F.m.lt).one
      have lt0 := hB.size
      gi_wp2
      all_goals
        obtain ⟨V1, hV1⟩ : ∃ V1, W.alloc (.cells #[.int .i64 2] 3) = V1 := ⟨_, rfl⟩
        rw [hV1]
        have hB1 : Below V.heap.size V V1 := by rw [← hV1]; exact hB.alloc hB.size _
        have ct1 : Blk V1 W.heap.size 3 #[.int .i64 (2 : Nat)] := by rw [← hV1]; exact Blk.new _ _ _
        have hlD := (Array.getElem?_eq_some_iff.1 hKD).1
        have hD1 : V1.heap[D]? = some (.deferred (some [])) := by rw [← hV1]; exact (Below.heap_alloc W _ D hlD).trans hKD
        have hL1 := hLeft.more hB1 (by have := hW.size; simp at hD; omega) (by simp at hD; omega) hD1
        have hz := fun (z11 z12 z26 z27 z28 z29 z30 z31 z32 z64 z65 z66 z67 z68 z69 z70 z71 z72 z73 z74 z75 z76 z77 z78 z79 z80 z81 z82 z83 z84 z85 : Value) hr => hK 0 [z11, z12, z26, z27, z28, z29, z30, z31, z32, z64, z65, z66, z67, z68, z69, z70, z71, z72, z73, z74, z75, z76, z77, z78, z79, z80, z81, z82, z83, z84, z85] (D :: Ds) V1 (by omega) hr
        simp only [sets, List.setIfInBounds_toArray, List.set_cons_zero, List.set_cons_succ] at hz
        refine hz _ _ _ _ _ _ _ _ _ _ _ _ _ _ _ _ _ _ _ _ _ _ _ _ _ _ _ _ _ _ _ ⟨2, W.heap.size, _, _, _, _, _, _, _, _, _, _, _, _, _, _, _, _, _, _, _, _, _, _, _, _, _, _, _, _, _, _, rfl, by omega, by omega, ct1, F.next hB1, hL1, below_in hBV hB1⟩
    case stop_1 =>
      rintro D c pre o W hD _ hsp ⟨rfl, hor⟩ hKD _
      rcases hor with ⟨rfl, h⟩ | ⟨h, _⟩
      · exact absurd hsp h
      · exact h.elim
  · gi_wp2_with fail
    have g0 := F.a.cell 0
    have g1 := F.a.cell 1
    have g2 := F.b.cell 0
    have g3 := F.b.cell 1
    simp only [List.getElem?_toArray, List.getElem?_cons_zero, List.getElem?_cons_succ] at g0 g1 g2 g3
    clear hK HRM HMl hg eg eq
    by_cases h1 : a1 < b1
    · have e1 : decide (a1 < b1) = true := decide_eq_true h1
      have hq : aheadB (a1, a2) (b1, b2) = true := by unfold aheadB; simp; omega
      clear h1
      have HQ := Lib.hid (fun W => (setsBefore_any a1 a2 b1 b2 W).mono fun e w' h => (by rw [hq] at h; exact h : e = .returned (.bool true) ∧ Below W.heap.size W w'))
      clear hq
      go_wp2_with (first | (go_at_call 20; refine (HQ.out _).mono ?_; rintro e wb ⟨rfl, hBb⟩; have F2 := F.next hBb; have hBw := hBb) | (go_at_call 11; refine (works_any _ F2.hL).mono ?_; rintro e wf ⟨rfl, hBf⟩; have hBa := below_in hBw hBf; have crx := (F2.r.below hBf F2.r.lt).one; have frx := (F2.r.below hBf F2.r.lt).frozen 0))
      have h3 : Blk (wf.setCell ⟨w.heap.size + 1 + 1 + 1 + 1, 0, none⟩ (.bool true)) (w.heap.size + 1 + 1 + 1 + 1) 4 #[.bool true] := (F2.r.below hBf F2.r.lt).set_ 0 _
      refine leaves_blks w Ds _ ((hLeft.below hBa).set_ _ _) ((below_in hW hBa).setCell (by simp; omega) _) fun W' hB' hk => ?_
      have cr := (hk _ _ _ h3).one
      exact ⟨.bool true, by simp [results, Tryz.results5, go_sem, cr], rfl, hB'⟩
    · have e1 : decide (a1 < b1) = false := decide_eq_false h1
      by_cases h2 : a1 = b1
      · have e2 : (a1 == b1) = true := by simpa using h2
        by_cases h3 : a2 < b2
        · have e3 : decide (a2 < b2) = true := decide_eq_true h3
          have hq : aheadB (a1, a2) (b1, b2) = true := by unfold aheadB; simp; omega
          clear h1 h2 h3
          have HQ := Lib.hid (fun W => (setsBefore_any a1 a2 b1 b2 W).mono fun e w' h => (by rw [hq] at h; exact h : e = .returned (.bool true) ∧ Below W.heap.size W w'))
          clear hq
          go_wp2_with (first | (go_at_call 20; refine (HQ.out _).mono ?_; rintro e wb ⟨rfl, hBb⟩; have F2 := F.next hBb; have hBw := hBb) | (go_at_call 11; refine (works_any _ F2.hL).mono ?_; rintro e wf ⟨rfl, hBf⟩; have hBa := below_in hBw hBf; have crx := (F2.r.below hBf F2.r.lt).one; have frx := (F2.r.below hBf F2.r.lt).frozen 0))
          have h3 : Blk (wf.setCell ⟨w.heap.size + 1 + 1 + 1 + 1, 0, none⟩ (.bool true)) (w.heap.size + 1 + 1 + 1 + 1) 4 #[.bool true] := (F2.r.below hBf F2.r.lt).set_ 0 _
          refine leaves_blks w Ds _ ((hLeft.below hBa).set_ _ _) ((below_in hW hBa).setCell (by simp; omega) _) fun W' hB' hk => ?_
          have cr := (hk _ _ _ h3).one
          exact ⟨.bool true, by simp [results, Tryz.results5, go_sem, cr], rfl, hB'⟩
        · have e3 : decide (a2 < b2) = false := decide_eq_false h3
          have hq : aheadB (a1, a2) (b1, b2) = false := by unfold aheadB; simp; omega
          clear h1 h2 h3
          have HQ := Lib.hid (fun W => (setsBefore_any a1 a2 b1 b2 W).mono fun e w' h => (by rw [hq] at h; exact h : e = .returned (.bool false) ∧ Below W.heap.size W w'))
          clear hq
          go_wp2_with (first | (go_at_call 20; refine (HQ.out _).mono ?_; rintro e wb ⟨rfl, hBb⟩; have F2 := F.next hBb; have hBw := hBb) | (go_at_call 11; refine (works_any _ F2.hL).mono ?_; rintro e wf ⟨rfl, hBf⟩; have hBa := below_in hBw hBf; have crx := (F2.r.below hBf F2.r.lt).one; have frx := (F2.r.below hBf F2.r.lt).frozen 0))
          have h3 : Blk (wf.setCell ⟨w.heap.size + 1 + 1 + 1 + 1, 0, none⟩ (.bool true)) (w.heap.size + 1 + 1 + 1 + 1) 4 #[.bool true] := (F2.r.below hBf F2.r.lt).set_ 0 _
          refine leaves_blks w Ds _ ((hLeft.below hBa).set_ _ _) ((below_in hW hBa).setCell (by simp; omega) _) fun W' hB' hk => ?_
          have cr := (hk _ _ _ h3).one
          exact ⟨.bool true, by simp [results, Tryz.results5, go_sem, cr], rfl, hB'⟩
      · have e2 : (a1 == b1) = false := by simpa using h2
        have hq : aheadB (a1, a2) (b1, b2) = false := by unfold aheadB; simp; omega
        clear h1 h2
        have HQ := Lib.hid (fun W => (setsBefore_any a1 a2 b1 b2 W).mono fun e w' h => (by rw [hq] at h; exact h : e = .returned (.bool false) ∧ Below W.heap.size W w'))
        clear hq
        go_wp2_with (first | (go_at_call 20; refine (HQ.out _).mono ?_; rintro e wb ⟨rfl, hBb⟩; have F2 := F.next hBb; have hBw := hBb) | (go_at_call 11; refine (works_any _ F2.hL).mono ?_; rintro e wf ⟨rfl, hBf⟩; have hBa := below_in hBw hBf; have crx := (F2.r.below hBf F2.r.lt).one; have frx := (F2.r.below hBf F2.r.lt).frozen 0))
        have h3 : Blk (wf.setCell ⟨w.heap.size + 1 + 1 + 1 + 1, 0, none⟩ (.bool true)) (w.heap.size + 1 + 1 + 1 + 1) 4 #[.bool true] := (F2.r.below hBf F2.r.lt).set_ 0 _
        refine leaves_blks w Ds _ ((hLeft.below hBa).set_ _ _) ((below_in hW hBa).setCell (by simp; omega) _) fun W' hB' hk => ?_
        have cr := (hk _ _ _ h3).one
        exact ⟨.bool true, by simp [results, Tryz.results5, go_sem, cr], rfl, hB'⟩
set_option maxRecDepth 100000 in
set_option maxHeartbeats 4000000 in
theorem main_no (k p a1 a2 b1 b2 many : Int) (w : World) (hL : Laid w) (wm : -9223372036854775808 ≤ many ∧ many ≤ 9223372036854775807) (hp : p ≤ 11) (hR : ¬ RightC k p) :
    Calls Tryz.prog 5 #[.agg #[.int .i64 k, .int .i64 p], .agg #[.int .i64 a1, .int .i64 a2], .agg #[.int .i64 b1, .int .i64 b2], .int .i64 many] w fun e w' => e = .returned (.bool true) ∧ Below w.heap.size w w' := by
  have hpd : decide (11 < p) = false := decide_eq_false (by omega)
  have HQ := Lib.hid (fun W => (refRight_any k p W).mono fun _ _ h => And.intro (h.2.1 hR) h.2.2)
  have HLi0 := Lib.hid (fun W hL => setsLines_no k p hR W hL)
  clear hR hp
  obtain ⟨W6, hW6⟩ : ∃ W6, (((((w.alloc (.cells #[.int .i64 k, .int .i64 p] 24)).alloc (.cells #[.int .i64 a1, .int .i64 a2] 26)).alloc (.cells #[.int .i64 b1, .int .i64 b2] 26)).alloc (.cells #[.int .i64 many] 3)).alloc (.cells #[.bool false] 4)).alloc (.cells #[.slice none 0 0] 27) = W6 := ⟨_, rfl⟩
  have k0 : Blk W6 (w.heap.size) 24 #[.int .i64 k, .int .i64 p] := by
    rw [← hW6]
    have := Blk.new w 24 #[.int .i64 k, .int .i64 p]
    exact (((((this.alloc (.cells #[.int .i64 a1, .int .i64 a2] 26)).alloc (.cells #[.int .i64 b1, .int .i64 b2] 26)).alloc (.cells #[.int .i64 many] 3)).alloc (.cells #[.bool false] 4)).alloc (.cells #[.slice none 0 0] 27))
  have k1 : Blk W6 (w.heap.size + 1) 26 #[.int .i64 a1, .int .i64 a2] := by
    rw [← hW6]
    have := Blk.new (w.alloc (.cells #[.int .i64 k, .int .i64 p] 24)) 26 #[.int .i64 a1, .int .i64 a2]
    rw [World.size_alloc] at this
    exact ((((this.alloc (.cells #[.int .i64 b1, .int .i64 b2] 26)).alloc (.cells #[.int .i64 many] 3)).alloc (.cells #[.bool false] 4)).alloc (.cells #[.slice none 0 0] 27))
  have k2 : Blk W6 (w.heap.size + 1 + 1) 26 #[.int .i64 b1, .int .i64 b2] := by
    rw [← hW6]
    have := Blk.new ((w.alloc (.cells #[.int .i64 k, .int .i64 p] 24)).alloc (.cells #[.int .i64 a1, .int .i64 a2] 26)) 26 #[.int .i64 b1, .int .i64 b2]
    rw [World.size_alloc, World.size_alloc] at this
    exact (((this.alloc (.cells #[.int .i64 many] 3)).alloc (.cells #[.bool false] 4)).alloc (.cells #[.slice none 0 0] 27))
  have k3 : Blk W6 (w.heap.size + 1 + 1 + 1) 3 #[.int .i64 many] := by
    rw [← hW6]
    have := Blk.new (((w.alloc (.cells #[.int .i64 k, .int .i64 p] 24)).alloc (.cells #[.int .i64 a1, .int .i64 a2] 26)).alloc (.cells #[.int .i64 b1, .int .i64 b2] 26)) 3 #[.int .i64 many]
    rw [World.size_alloc, World.size_alloc, World.size_alloc] at this
    exact ((this.alloc (.cells #[.bool false] 4)).alloc (.cells #[.slice none 0 0] 27))
  have k4 : Blk W6 (w.heap.size + 1 + 1 + 1 + 1) 4 #[.bool false] := by
    rw [← hW6]
    have := Blk.new ((((w.alloc (.cells #[.int .i64 k, .int .i64 p] 24)).alloc (.cells #[.int .i64 a1, .int .i64 a2] 26)).alloc (.cells #[.int .i64 b1, .int .i64 b2] 26)).alloc (.cells #[.int .i64 many] 3)) 4 #[.bool false]
    rw [World.size_alloc, World.size_alloc, World.size_alloc, World.size_alloc] at this
    exact (this.alloc (.cells #[.slice none 0 0] 27))
  have k5 : Blk W6 (w.heap.size + 1 + 1 + 1 + 1 + 1) 27 #[.slice none 0 0] := by
    rw [← hW6]
    have := Blk.new (((((w.alloc (.cells #[.int .i64 k, .int .i64 p] 24)).alloc (.cells #[.int .i64 a1, .int .i64 a2] 26)).alloc (.cells #[.int .i64 b1, .int .i64 b2] 26)).alloc (.cells #[.int .i64 many] 3)).alloc (.cells #[.bool false] 4)) 27 #[.slice none 0 0]
    rw [World.size_alloc, World.size_alloc, World.size_alloc, World.size_alloc, World.size_alloc] at this
    exact this
  have hB : Below w.heap.size w W6 := by rw [← hW6]; exact ((((below_two w _ _).alloc (by simp; omega) _).alloc (by simp; omega) _).alloc (by simp; omega) _).alloc (by simp; omega) _
  replace hL := hL.next hB
  have c0 := k0.cell 0
  have c1 := k0.cell 1
  simp only [List.getElem?_toArray, List.getElem?_cons_zero, List.getElem?_cons_succ] at c0 c1
  refine (callsIn_wide (n := 20)).1 ?_
  refine callsIn_of_wp_marks Tryz.func5 rfl trivial ?_ rfl
  simp only [Tryz.ntmps5, List.size_toArray, List.length_cons, List.length_nil, Nat.reduceAdd, Nat.reduceSub, Array.replicate_succ, Array.replicate_zero, List.push_toArray, List.append_toArray, List.nil_append, List.cons_append]
  refine wpIn_wide.2 ?_
  go_wp2_with fail
  try rw [hW6]
  clear hW6
  refine (HQ.out _).mono ?_
  rintro e W6 ⟨rfl, hB1⟩
  replace hL := hL.next hB1
  replace k0 := k0.below hB1 k0.lt; replace k1 := k1.below hB1 k1.lt; replace k2 := k2.below hB1 k2.lt; replace k3 := k3.below hB1 k3.lt; replace k4 := k4.below hB1 k4.lt; replace k5 := k5.below hB1 k5.lt
  replace hB := below_in hB hB1
  clear hB1 c0 c1 HQ
  obtain ⟨zs, wq, wcap, F, HRM, HMl, HLi, hzl⟩ : ∃ (zs : List (Int × Int)) (wq : Option Addr) (wcap : Nat), Facts W6 w.heap.size k p a1 a2 b1 b2 many (.slice wq zs.length wcap) zs ∧
      Hid (∀ z ∈ zs, ∀ W, Calls Tryz.prog 15 #[.agg #[.int .i64 k, .int .i64 p], .agg #[.int .i64 z.1, .int .i64 z.2]] W fun e w' => ∃ v, e = .returned v ∧ OwnA w' W.heap.size v (memL k p z.1 z.2) ∧ Below W.heap.size W w') ∧
      Hid (∀ z ∈ zs, (memL k p z.1 z.2).length ≤ 1000) ∧ Hid (∀ W, Laid W → Calls Tryz.prog 19 #[.agg #[.int .i64 k, .int .i64 p]] W fun e w' => ∃ u, e = .returned u ∧ LinesO W.heap.size k p zs u w' ∧ Below W.heap.size W w') ∧ zs.length ≤ 100 :=
    ⟨[], none, 0, ⟨k0, k1, k2, k3, k4, k5, readA_nil _, hL⟩, Lib.hid (fun z hz => absurd hz List.not_mem_nil), Lib.hid (fun z hz => absurd hz List.not_mem_nil), HLi0, by decide⟩
  clear k0 k1 k2 k3 k4 k5 hL HLi0
  have c0 := F.b0.cell 0
  have c1 := F.b0.cell 1
  simp only [List.getElem?_toArray, List.getElem?_cons_zero, List.getElem?_cons_succ] at c0 c1
  go_wp2_with fail
  refine (HLi.out _ F.hL).mono ?_
  clear c0 c1 HLi
  rintro e w7 ⟨v, rfl, ⟨gf, pa, lb, rfl, eg, eq, hg⟩, hB7⟩
  have hs6 := hB7.size
  have F7 := F.next hB7
  have hB6 := below_in hB hB7
  clear F hB
  go_wp2_with fail
  obtain ⟨V0, hV0⟩ : ∃ V0, w7.alloc (.cells #[.int .i64 0] 3) = V0 := ⟨_, rfl⟩
  have hB70 : Below w7.heap.size w7 V0 := by rw [← hV0]; exact below_one w7 _
  have ct0 : Blk V0 w7.heap.size 3 #[.int .i64 0] := by rw [← hV0]; exact Blk.new _ _ _
  have F0 := F7.next hB70
  have hW0 := below_in hB6 hB70
  have hs7 : w7.heap.size < V0.heap.size := ct0.lt
  have hL7 := F7.hL
  rw [hV0]
  clear hV0 F7 hB6
  refine (wpIn_wide (n := 20)).1 ?_
  refine loop_left [11, 12, 26, 27, 28, 29, 30, 31, 32, 64, 65, 66, 67, 68, 69, 70, 71, 72, 73, 74, 75, 76, 77, 78, 79, 80, 81, 82, 83, 84, 85] (fun m vs Ds V => ∃ (t Bt : Nat) (y12 y26 y27 y28 y29 y30 y31 y32 y64 y65 y66 y67 y68 y69 y70 y71 y72 y73 y74 y75 y76 y77 y78 y79 y80 y81 y82 y83 y84 y85 : Value), vs = [.pointer (some ⟨Bt, 0, none⟩), y12, y26, y27, y28, y29, y30, y31, y32, y64, y65, y66, y67, y68, y69, y70, y71, y72, y73, y74, y75, y76, y77, y78, y79, y80, y81, y82, y83, y84, y85] ∧ t + m = 2 ∧ w7.heap.size ≤ Bt ∧ Blk V Bt 3 #[.int .i64 (t : Int)] ∧ Facts V w.heap.size k p a1 a2 b1 b2 many (.slice wq zs.length wcap) zs ∧ Left w.heap.size V Ds ∧ Below V0.heap.size V0 V) 2
    [.pointer (some ⟨w7.heap.size, 0, none⟩), undef, undef, undef, undef, undef, undef, undef, undef, undef, undef, undef, undef, undef, undef, undef, undef, undef, undef, undef, undef, undef, undef, undef, undef, undef, undef, undef, undef, undef, undef] (by kernel_rfl) ⟨0, w7.heap.size, _, _, _, _, _, _, _, _, _, _, _, _, _, _, _, _, _, _, _, _, _, _, _, _, _, _, _, _, _, _, rfl, rfl, Nat.le_refl _, ct0, F0, Left.nil _ _, Below.refl _ _⟩ ?_
  clear F0 ct0
  rintro m vs Ds V ⟨t, Bt, y12, y26, y27, y28, y29, y30, y31, y32, y64, y65, y66, y67, y68, y69, y70, y71, y72, y73, y74, y75, y76, y77, y78, y79, y80, y81, y82, y83, y84, y85, rfl, htm, hBt, ct, F, hLeft, hBV⟩ K hK
  simp only [sets, List.setIfInBounds_toArray, List.set_cons_zero, List.set_cons_succ]
  have hs0 := hBV.size
  have hW := below_in hW0 hBV
  have ctx := ct.one
  have l1 := F.b0.lt
  have l2 := F.a.lt
  have l3 := F.b.lt
  have l4 := F.m.lt
  have l5 := F.r.lt
  have l6 := F.q.lt
  have lt := ct.lt
  obtain rfl | rfl | rfl : t = 0 ∨ t = 1 ∨ t = 2 := by omega
  · gi_wp2_with fail
    have hnb : Blk (V.alloc (.cells #[.int .i64 0] 3)) V.heap.size 3 #[.int .i64 (([] : List ((Int × Int) × Value)).length : Int)] := Blk.new _ _ _
    refine wpIn_rangeBoxB rfl (by omega) (gf := gf) (pa := pa) (lb := lb) rfl trivial eg (hg 19 (by omega)) (fun h h' => h.trans h') (fun W l o hl _ hlp => ⟨Keep.putFar W (by simp at hl; omega) o, fun h => laid_put h hlp o⟩) (below_in (below_in hB70 hBV) (below_one V _)) (fun _ => rfl)
      (fun pre o W => o = none ∧ (pre.map (·.1) <+: zs ∧ (pre.length = 0 ∨ (pre.length : Int) < many)) ∧ Told V.heap.size V pre W)
      (fun c pre o W => o = none ∧ ((c = .ret ∧ ¬ (pre.map (·.1) <+: zs)) ∨ ((c = .exit 2 ∧ 1 ≤ pre.length ∧ (pre.length = 1 ∨ (pre.length : Int) - 1 < many) ∧ many ≤ (pre.length : Int) ∧ pre.map (·.1) <+: zs) ∧ Told V.heap.size V pre W)))
      ?hI_0 ?hIx_0 none (fun b e => by cases e) ⟨rfl, ⟨List.nil_prefix, .inl rfl⟩, hnb, below_one V _⟩
      (fun x W => LineOk k p zs x W) (fun x W l ob hl h => by obtain ⟨r, hr⟩ := hl; exact LineOk.put hr h) 26 (fun x : (Int × Int) × Value => #[.int .i64 x.1.1, .int .i64 x.1.2]) ?a1_0
      ?assign_0 (fun pre o W h => by rw [h.1]; exact rowO_none W) (fun c pre o W h => by rw [h.1]; exact rowO_none W) ?body_0 ?done_0 ?stop_0
    case hI_0 =>
      rintro s o X Y row ⟨rfl, hp, ht⟩ hgr hr
      exact ⟨rfl, hp, told_grown ht (by simp) (by simp) hgr hr⟩
    case hIx_0 =>
      rintro c s o X Y row ⟨rfl, h⟩ hgr hr
      exact ⟨rfl, h.imp id fun h => ⟨h.1, told_grown h.2 (by simp) (by simp) hgr hr⟩⟩
    case assign_0 =>
      rintro l' pre x o W K hsz hol ⟨rfl, hp, hn, hB⟩ hok hK
      gi_wp2
      have hbx := Blk.new W 26 #[.int .i64 x.1.1, .int .i64 x.1.2]
      have hBz := below_one W (.cells #[.int .i64 x.1.1, .int .i64 x.1.2] 26)
      have hsn := hn.lt
      have hSi : SinceO (V.alloc (.cells #[.int .i64 0] 3)).heap.size none W (W.alloc (.cells #[.int .i64 x.1.1, .int .i64 x.1.2] 26)) := SinceO.below hBz
      have hKe : KeepL W6.heap.size (w7.heap.size - W6.heap.size) W (W.alloc (.cells #[.int .i64 x.1.1, .int .i64 x.1.2] 26)) := ⟨Keep.alloc (by omega) _, fun h => h.next hBz⟩
      have hTo : Told V.heap.size V pre (W.alloc (.cells #[.int .i64 x.1.1, .int .i64 x.1.2] 26)) := ⟨hn.alloc _, hB.alloc hB.size _⟩
      have hok2 : LineOk k p zs x (W.alloc (.cells #[.int .i64 x.1.1, .int .i64 x.1.2] 26)) := ⟨hok.1, hok.2.next hBz⟩
      clear hBz hok
      generalize W.alloc (.cells #[.int .i64 x.1.1, .int .i64 x.1.2] 26) = W' at *
      generalize W.heap.size = Bx at *
      exact hK Bx W' hSi hKe ⟨by first | rfl | trivial, hp, hTo⟩ hbx (by simp) hsz hok2
    case body_0 =>
      rintro l' pre x o Bx W hsz ⟨rfl, ⟨hpre, hcnd⟩, hn, hB⟩ hbx hne hle hok hlt
      obtain ⟨⟨zx, zy⟩, zv⟩ := x
      simp only at hbx
      have hple := hpre.length_le
      rw [List.length_map] at hple
      have cn := hn.one
      have fn := hn.frozen 0
      have cq := (F.q.below hB F.q.lt).one
      have cty := (ct.below hB ct.lt).one
      have cmx := (F.m.below hB F.m.lt).one
      have crx := (F.r.below hB F.r.lt).one
      have frx := (F.r.below hB F.r.lt).frozen 0
      have c0 := (F.b0.below hB F.b0.lt).cell 0
      have c1 := (F.b0.below hB F.b0.lt).cell 1
      have z0 := hbx.cell 0
      have z1 := hbx.cell 1
      simp only [List.getElem?_toArray, List.getElem?_cons_zero, List.getElem?_cons_succ] at c0 c1 z0 z1
      have hbs := hB.size
      have hX := Below.refl W.heap.size W
      rcases Nat.lt_or_ge pre.length zs.length with hlz | hlz
      · have dp : decide ((zs.length : Int) ≤ (pre.length : Int)) = false := decide_eq_false (by omega)
        obtain ⟨gq, rfl, hgq, q0, q1⟩ : ∃ gq, wq = some ⟨gq, 0, none⟩ ∧ gq < V.heap.size ∧ V.cell? ⟨gq, pre.length * 2, none⟩ = some (.int .i64 (zs[pre.length]).1) ∧ V.cell? ⟨gq, pre.length * 2 + 1, none⟩ = some (.int .i64 (zs[pre.length]).2) := by obtain ⟨pq, cq2, e, hc⟩ := F.rd; obtain ⟨g2, e2, h1, h2, h3⟩ := hc _ hlz; injection e with e3 _ _; exact ⟨g2, e3.trans e2, h1, h2, h3⟩
        replace q0 := nextc q0 hB
        replace q1 := nextc q1 hB
        have i1 : (0 : Int) ≤ (pre.length : Int) := by omega
        have i2 : (pre.length : Int) < (zs.length : Int) := by omega
        have hpe := fun h => prefix_elem (x := ((zx, zy), zv)) hpre hlz h
        have hpn := fun (h : ((zx, zy) : Int × Int) ≠ zs[pre.length]) => prefix_not (x := ((zx, zy), zv)) (zs := zs) (pre := pre) (fun _ => h)
        generalize zs[pre.length] = z at *
        obtain ⟨qx, qy⟩ := z
        simp only at q0 q1 hpe
        by_cases ex : zx = qx
        · subst ex
          by_cases ey : zy = qy
          · subst ey
            have HPE := Lib.hid (hpe rfl)
            clear hpe hpn
            have hzm := hok.1
            have HRMz := Lib.hid (HRM.out (zx, zy) hzm)
            have hln := HMl.out (zx, zy) hzm
            have hrd := hok.2.readA
            simp only at HRMz hln hrd
            clear hok hzm
            generalize memL k p zx zy = ml at *
            gi_wp2_with fail
            have hS : (fun U : World => U.cell? ⟨V.heap.size, 0, none⟩ = some (.int .i64 (pre.length : Int)) ∧ U.cell? ⟨w.heap.size + 1 + 1 + 1 + 1 + 1, 0, none⟩ = some (.slice (some ⟨gq, 0, none⟩) zs.length wcap) ∧ U.cell? ⟨Bx, 0, none⟩ = some (.int .i64 zx) ∧ U.cell? ⟨Bx, 1, none⟩ = some (.int .i64 zy) ∧ U.cell? ⟨w.heap.size, 0, none⟩ = some (.int .i64 k) ∧ U.cell? ⟨w.heap.size, 1, none⟩ = some (.int .i64 p) ∧ U.cell? ⟨gq, pre.length * 2, none⟩ = some (.int .i64 zx) ∧ U.cell? ⟨gq, pre.length * 2 + 1, none⟩ = some (.int .i64 zy)) W.drew := ⟨cn, cq, z0, z1, c0, c1, q0, q1⟩
            refine region_HF (S := (fun U : World => U.cell? ⟨V.heap.size, 0, none⟩ = some (.int .i64 (pre.length : Int)) ∧ U.cell? ⟨w.heap.size + 1 + 1 + 1 + 1 + 1, 0, none⟩ = some (.slice (some ⟨gq, 0, none⟩) zs.length wcap) ∧ U.cell? ⟨Bx, 0, none⟩ = some (.int .i64 zx) ∧ U.cell? ⟨Bx, 1, none⟩ = some (.int .i64 zy) ∧ U.cell? ⟨w.heap.size, 0, none⟩ = some (.int .i64 k) ∧ U.cell? ⟨w.heap.size, 1, none⟩ = some (.int .i64 p) ∧ U.cell? ⟨gq, pre.length * 2, none⟩ = some (.int .i64 zx) ∧ U.cell? ⟨gq, pre.length * 2 + 1, none⟩ = some (.int .i64 zy))) (by kernel_rfl) ?_
            refine anyHF_take (i := 0) (d := 35) (v := .int .i64 (pre.length : Int)) (by kernel_rfl) rfl (by kernel_rfl) (by kernel_rfl) (by kernel_rfl) rfl (fun _ _ _ h => h) ⟨Or.inl ⟨by rfl, fun w hS => by obtain ⟨h0, h1, h2, h3, h4, h5, h6, h7⟩ := hS; go_simp⟩, fun _ => rfl⟩ hS ?_
            simp only [List.setIfInBounds_toArray, List.set_cons_zero, List.set_cons_succ]
            refine anyHF_take (i := 1) (d := 36) (v := .slice (some ⟨gq, 0, none⟩) zs.length wcap) (by kernel_rfl) rfl (by kernel_rfl) (by kernel_rfl) (by kernel_rfl) rfl (fun _ _ _ h => h) ⟨Or.inl ⟨by rfl, fun w hS => by obtain ⟨h0, h1, h2, h3, h4, h5, h6, h7⟩ := hS; go_simp⟩, fun _ => rfl⟩ hS ?_
            simp only [List.setIfInBounds_toArray, List.set_cons_zero, List.set_cons_succ]
            refine anyHF_one (i := 2) (by kernel_rfl) rfl (by kernel_rfl) (by rfl) ?_
            gi_wp2
            refine anyHF_take (i := 3) (d := 38) (v := .bool false) (by kernel_rfl) rfl (by kernel_rfl) (by kernel_rfl) (by kernel_rfl) rfl (fun _ _ _ h => h) ⟨Or.inl ⟨by rfl, fun w hS => by obtain ⟨h0, h1, h2, h3, h4, h5, h6, h7⟩ := hS; go_simp⟩, fun _ => rfl⟩ hS ?_
            simp only [List.setIfInBounds_toArray, List.set_cons_zero, List.set_cons_succ]
            refine anyHF_take (i := 4) (d := 39) (v := .bool false) (by kernel_rfl) rfl (by kernel_rfl) (by kernel_rfl) (by kernel_rfl) rfl (fun _ _ _ h => h) ⟨Or.inl ⟨by rfl, fun w hS => by obtain ⟨h0, h1, h2, h3, h4, h5, h6, h7⟩ := hS; go_simp⟩, fun _ => rfl⟩ hS ?_
            simp only [List.setIfInBounds_toArray, List.set_cons_zero, List.set_cons_succ]
            refine anyHF_take (i := 5) (d := 40) (v := .agg #[.int .i64 zx, .int .i64 zy]) (by kernel_rfl) rfl (by kernel_rfl) (by kernel_rfl) (by kernel_rfl) rfl (fun _ _ _ h => h) ⟨Or.inl ⟨by rfl, fun w hS => by obtain ⟨h0, h1, h2, h3, h4, h5, h6, h7⟩ := hS; go_simp⟩, fun _ => rfl⟩ hS ?_
            simp only [List.setIfInBounds_toArray, List.set_cons_zero, List.set_cons_succ]
            refine anyHF_take (i := 6) (d := 41) (v := .slice (some ⟨gq, 0, none⟩) zs.length wcap) (by kernel_rfl) rfl (by kernel_rfl) (by kernel_rfl) (by kernel_rfl) rfl (fun _ _ _ h => h) ⟨Or.inl ⟨by rfl, fun w hS => by obtain ⟨h0, h1, h2, h3, h4, h5, h6, h7⟩ := hS; go_simp⟩, fun _ => rfl⟩ hS ?_
            simp only [List.setIfInBounds_toArray, List.set_cons_zero, List.set_cons_succ]
            refine anyHF_take (i := 7) (d := 42) (v := .int .i64 (pre.length : Int)) (by kernel_rfl) rfl (by kernel_rfl) (by kernel_rfl) (by kernel_rfl) rfl (fun _ _ _ h => h) ⟨Or.inl ⟨by rfl, fun w hS => by obtain ⟨h0, h1, h2, h3, h4, h5, h6, h7⟩ := hS; go_simp⟩, fun _ => rfl⟩ hS ?_
            simp only [List.setIfInBounds_toArray, List.set_cons_zero, List.set_cons_succ]
            refine anyHF_take (i := 8) (d := 43) (v := .pointer (some ⟨gq, pre.length * 2, none⟩)) (by kernel_rfl) rfl (by kernel_rfl) (by kernel_rfl) (by kernel_rfl) rfl (fun _ _ _ h => h) ⟨Or.inl ⟨by rfl, fun w hS => by obtain ⟨h0, h1, h2, h3, h4, h5, h6, h7⟩ := hS; go_simp⟩, fun _ => rfl⟩ hS ?_
            simp only [List.setIfInBounds_toArray, List.set_cons_zero, List.set_cons_succ]
            refine anyHF_take (i := 9) (d := 44) (v := .agg #[.int .i64 zx, .int .i64 zy]) (by kernel_rfl) rfl (by kernel_rfl) (by kernel_rfl) (by kernel_rfl) rfl (fun _ _ _ h => h) ⟨Or.inl ⟨by rfl, fun w hS => by obtain ⟨h0, h1, h2, h3, h4, h5, h6, h7⟩ := hS; go_simp⟩, fun _ => rfl⟩ hS ?_
            simp only [List.setIfInBounds_toArray, List.set_cons_zero, List.set_cons_succ]
            refine anyHF_take (i := 10) (d := 45) (v := .bool false) (by kernel_rfl) rfl (by kernel_rfl) (by kernel_rfl) (by kernel_rfl) rfl (fun _ _ _ h => h) ⟨Or.inl ⟨by rfl, fun w hS => by obtain ⟨h0, h1, h2, h3, h4, h5, h6, h7⟩ := hS; go_simp⟩, fun _ => rfl⟩ hS ?_
            simp only [List.setIfInBounds_toArray, List.set_cons_zero, List.set_cons_succ]
            refine anyHF_take (i := 11) (d := 46) (v := .bool false) (by kernel_rfl) rfl (by kernel_rfl) (by kernel_rfl) (by kernel_rfl) rfl (fun _ _ _ h => h) ⟨Or.inl ⟨by rfl, fun w hS => by obtain ⟨h0, h1, h2, h3, h4, h5, h6, h7⟩ := hS; go_simp⟩, fun _ => rfl⟩ hS ?_
            simp only [List.setIfInBounds_toArray, List.set_cons_zero, List.set_cons_succ]
            refine anyHF_take (i := 12) (d := 47) (v := .bool false) (by kernel_rfl) rfl (by kernel_rfl) (by kernel_rfl) (by kernel_rfl) rfl (fun _ _ _ h => h) ⟨Or.inl ⟨by rfl, fun w hS => by obtain ⟨h0, h1, h2, h3, h4, h5, h6, h7⟩ := hS; go_simp⟩, fun _ => rfl⟩ hS ?_
            simp only [List.setIfInBounds_toArray, List.set_cons_zero, List.set_cons_succ]
            refine anyHF_take (i := 13) (d := 48) (v := zv) (by kernel_rfl) rfl (by kernel_rfl) (by kernel_rfl) (by kernel_rfl) rfl (fun _ _ _ h => h) ⟨Or.inl ⟨by rfl, fun w hS => by obtain ⟨h0, h1, h2, h3, h4, h5, h6, h7⟩ := hS; go_simp⟩, fun _ => rfl⟩ hS ?_
            simp only [List.setIfInBounds_toArray, List.set_cons_zero, List.set_cons_succ]
            refine anyHF_take (i := 14) (d := 49) (v := .agg #[.int .i64 k, .int .i64 p]) (by kernel_rfl) rfl (by kernel_rfl) (by kernel_rfl) (by kernel_rfl) rfl (fun _ _ _ h => h) ⟨Or.inl ⟨by rfl, fun w hS => by obtain ⟨h0, h1, h2, h3, h4, h5, h6, h7⟩ := hS; go_simp⟩, fun _ => rfl⟩ hS ?_
            simp only [List.setIfInBounds_toArray, List.set_cons_zero, List.set_cons_succ]
            refine anyHF_take (i := 15) (d := 50) (v := .agg #[.int .i64 zx, .int .i64 zy]) (by kernel_rfl) rfl (by kernel_rfl) (by kernel_rfl) (by kernel_rfl) rfl (fun _ _ _ h => h) ⟨Or.inl ⟨by rfl, fun w hS => by obtain ⟨h0, h1, h2, h3, h4, h5, h6, h7⟩ := hS; go_simp⟩, fun _ => rfl⟩ hS ?_
            simp only [List.setIfInBounds_toArray, List.set_cons_zero, List.set_cons_succ]
            refine anyHF_one (i := 16) (by kernel_rfl) rfl (by kernel_rfl) (by rfl) ?_
            gi_wp2_with fail
            refine ⟨trivial, (CallsIn.inRound l' (callsIn_wide.2 (HRMz.out _))).mono ?_⟩
            rintro e X2 ⟨v2, rfl, ho2, hB2⟩
            replace hB2 := below_undrew hB2
            have hX2 := below_in hX hB2
            replace hX := hX2
            clear hX2 hS
            replace cn := nextc cn hB2
            replace cq := nextc cq hB2
            replace z0 := nextc z0 hB2
            replace z1 := nextc z1 hB2
            replace c0 := nextc c0 hB2
            replace c1 := nextc c1 hB2
            replace q0 := nextc q0 hB2
            replace q1 := nextc q1 hB2
            have hr2 := ho2.readA
            replace hrd := hrd.next hB2
            clear ho2 HRMz
            have hS : (fun U : World => U.cell? ⟨V.heap.size, 0, none⟩ = some (.int .i64 (pre.length : Int)) ∧ U.cell? ⟨w.heap.size + 1 + 1 + 1 + 1 + 1, 0, none⟩ = some (.slice (some ⟨gq, 0, none⟩) zs.length wcap) ∧ U.cell? ⟨Bx, 0, none⟩ = some (.int .i64 zx) ∧ U.cell? ⟨Bx, 1, none⟩ = some (.int .i64 zy) ∧ U.cell? ⟨w.heap.size, 0, none⟩ = some (.int .i64 k) ∧ U.cell? ⟨w.heap.size, 1, none⟩ = some (.int .i64 p) ∧ U.cell? ⟨gq, pre.length * 2, none⟩ = some (.int .i64 zx) ∧ U.cell? ⟨gq, pre.length * 2 + 1, none⟩ = some (.int .i64 zy)) _ := ⟨cn, cq, z0, z1, c0, c1, q0, q1⟩
            gi_wp2
            refine anyHF_one (i := 17) (by kernel_rfl) rfl (by kernel_rfl) (by rfl) ?_
            gi_wp2_with fail
            refine ⟨trivial, (CallsIn.inRound l' (callsIn_wide.2 (same_yes _ _ ml hln _ hrd hr2))).mono ?_⟩
            rintro e X3 ⟨rfl, hB2⟩
            have hX2 := below_in hX hB2
            replace hX := hX2
            clear hX2 hS
            replace cn := nextc cn hB2
            replace cq := nextc cq hB2
            replace z0 := nextc z0 hB2
            replace z1 := nextc z1 hB2
            replace c0 := nextc c0 hB2
            replace c1 := nextc c1 hB2
            replace q0 := nextc q0 hB2
            replace q1 := nextc q1 hB2
            clear hrd hr2
            have hS : (fun U : World => U.cell? ⟨V.heap.size, 0, none⟩ = some (.int .i64 (pre.length : Int)) ∧ U.cell? ⟨w.heap.size + 1 + 1 + 1 + 1 + 1, 0, none⟩ = some (.slice (some ⟨gq, 0, none⟩) zs.length wcap) ∧ U.cell? ⟨Bx, 0, none⟩ = some (.int .i64 zx) ∧ U.cell? ⟨Bx, 1, none⟩ = some (.int .i64 zy) ∧ U.cell? ⟨w.heap.size, 0, none⟩ = some (.int .i64 k) ∧ U.cell? ⟨w.heap.size, 1, none⟩ = some (.int .i64 p) ∧ U.cell? ⟨gq, pre.length * 2, none⟩ = some (.int .i64 zx) ∧ U.cell? ⟨gq, pre.length * 2 + 1, none⟩ = some (.int .i64 zy)) _ := ⟨cn, cq, z0, z1, c0, c1, q0, q1⟩
            gi_wp2
            refine anyHF_take (i := 18) (d := 53) (v := .bool false) (by kernel_rfl) rfl (by kernel_rfl) (by kernel_rfl) (by kernel_rfl) rfl (fun _ _ _ h => h) ⟨Or.inl ⟨by rfl, fun w hS => by obtain ⟨h0, h1, h2, h3, h4, h5, h6, h7⟩ := hS; go_simp⟩, fun _ => rfl⟩ hS ?_
            simp only [List.setIfInBounds_toArray, List.set_cons_zero, List.set_cons_succ]
            refine anyHF_take (i := 19) (d := 54) (v := .bool false) (by kernel_rfl) rfl (by kernel_rfl) (by kernel_rfl) (by kernel_rfl) rfl (fun _ _ _ h => h) ⟨Or.inl ⟨by rfl, fun w hS => by obtain ⟨h0, h1, h2, h3, h4, h5, h6, h7⟩ := hS; go_simp⟩, fun _ => rfl⟩ hS ?_
            simp only [List.setIfInBounds_toArray, List.set_cons_zero, List.set_cons_succ]
            refine anyHF_done (by kernel_rfl) ?_ _
            have hBX := below_in hB hX
            replace hn := hn.below hX hn.lt
            have fn := hn.frozen 0
            replace cty := nextc cty hX
            replace cmx := nextc cmx hX
            have hsX := hX.size
            have hl1 : ((pre ++ [((zx, zy), zv)]).length : Int) = (pre.length : Int) + 1 := by rw [List.length_append]; rfl
            have HL1 := Lib.hid hl1
            have hBS : Hid (Below V.heap.size V (X3.setCell ⟨V.heap.size, 0, none⟩ (.int .i64 ((pre.length : Int) + 1)))) := by exact hBX.setCell (by simp) _
            have HT : Hid (Told V.heap.size V (pre ++ [((zx, zy), zv)]) (X3.setCell ⟨V.heap.size, 0, none⟩ (.int .i64 ((pre.length : Int) + 1)))) := by
              refine ⟨?_, hBS.out⟩
              rw [hl1]
              exact hn.set_ 0 _
            have hSi : Hid (SinceO (V.alloc (.cells #[.int .i64 0] 3)).heap.size none W (X3.setCell ⟨V.heap.size, 0, none⟩ (.int .i64 ((pre.length : Int) + 1)))) := by exact (SinceO.below hX).trans_ (sinceO_set _ (by simp) _ _)
            have hKe : Hid (KeepL W6.heap.size (w7.heap.size - W6.heap.size) W (X3.setCell ⟨V.heap.size, 0, none⟩ (.int .i64 ((pre.length : Int) + 1)))) := by exact ⟨(Keep.below hX (by omega)).trans (Keep.setFar _ (by simp; omega) _), fun _ => F.hL.next hBS.out⟩
            clear hl1 hS
            by_cases hm : many ≤ (pre.length : Int) + 1
            · have dm : decide (many ≤ (pre.length : Int) + 1) = true := decide_eq_true hm
              gi_wp2
              refine ⟨none, .inl rfl, (by simpa using hSi.out), rfl, .inr ⟨⟨rfl, by rw [List.length_append]; simp, ?_, ?_, HPE.out⟩, HT.out⟩⟩
              · rcases hcnd with h | h
                · left; rw [List.length_append, h]; rfl
                · right; rw [HL1.out]; omega
              · rw [HL1.out]; exact hm
            · have dm : decide (many ≤ (pre.length : Int) + 1) = false := decide_eq_false hm
              gi_wp2
              refine ⟨none, .inl rfl, (by simpa using hSi.out), hKe.out, rfl, ⟨HPE.out, .inr ?_⟩, HT.out⟩
              rw [HL1.out]; omega
          · have HPN := Lib.hid (hpn (fun e => ey (by injection e)))
            clear hpe hpn
            gi_wp2_with fail
            have hS : (fun U : World => U.cell? ⟨V.heap.size, 0, none⟩ = some (.int .i64 (pre.length : Int)) ∧ U.cell? ⟨w.heap.size + 1 + 1 + 1 + 1 + 1, 0, none⟩ = some (.slice (some ⟨gq, 0, none⟩) zs.length wcap) ∧ U.cell? ⟨Bx, 0, none⟩ = some (.int .i64 zx) ∧ U.cell? ⟨Bx, 1, none⟩ = some (.int .i64 zy) ∧ U.cell? ⟨w.heap.size, 0, none⟩ = some (.int .i64 k) ∧ U.cell? ⟨w.heap.size, 1, none⟩ = some (.int .i64 p) ∧ U.cell? ⟨gq, pre.length * 2, none⟩ = some (.int .i64 zx) ∧ U.cell? ⟨gq, pre.length * 2 + 1, none⟩ = some (.int .i64 qy)) W.drew := ⟨cn, cq, z0, z1, c0, c1, q0, q1⟩
            refine region_HF (S := (fun U : World => U.cell? ⟨V.heap.size, 0, none⟩ = some (.int .i64 (pre.length : Int)) ∧ U.cell? ⟨w.heap.size + 1 + 1 + 1 + 1 + 1, 0, none⟩ = some (.slice (some ⟨gq, 0, none⟩) zs.length wcap) ∧ U.cell? ⟨Bx, 0, none⟩ = some (.int .i64 zx) ∧ U.cell? ⟨Bx, 1, none⟩ = some (.int .i64 zy) ∧ U.cell? ⟨w.heap.size, 0, none⟩ = some (.int .i64 k) ∧ U.cell? ⟨w.heap.size, 1, none⟩ = some (.int .i64 p) ∧ U.cell? ⟨gq, pre.length * 2, none⟩ = some (.int .i64 zx) ∧ U.cell? ⟨gq, pre.length * 2 + 1, none⟩ = some (.int .i64 qy))) (by kernel_rfl) ?_
            refine anyHF_take (i := 0) (d := 35) (v := .int .i64 (pre.length : Int)) (by kernel_rfl) rfl (by kernel_rfl) (by kernel_rfl) (by kernel_rfl) rfl (fun _ _ _ h => h) ⟨Or.inl ⟨by rfl, fun w hS => by obtain ⟨h0, h1, h2, h3, h4, h5, h6, h7⟩ := hS; go_simp⟩, fun _ => rfl⟩ hS ?_
            simp only [List.setIfInBounds_toArray, List.set_cons_zero, List.set_cons_succ]
            refine anyHF_take (i := 1) (d := 36) (v := .slice (some ⟨gq, 0, none⟩) zs.length wcap) (by kernel_rfl) rfl (by kernel_rfl) (by kernel_rfl) (by kernel_rfl) rfl (fun _ _ _ h => h) ⟨Or.inl ⟨by rfl, fun w hS => by obtain ⟨h0, h1, h2, h3, h4, h5, h6, h7⟩ := hS; go_simp⟩, fun _ => rfl⟩ hS ?_
            simp only [List.setIfInBounds_toArray, List.set_cons_zero, List.set_cons_succ]
            refine anyHF_one (i := 2) (by kernel_rfl) rfl (by kernel_rfl) (by rfl) ?_
            gi_wp2
            refine anyHF_take (i := 3) (d := 38) (v := .bool false) (by kernel_rfl) rfl (by kernel_rfl) (by kernel_rfl) (by kernel_rfl) rfl (fun _ _ _ h => h) ⟨Or.inl ⟨by rfl, fun w hS => by obtain ⟨h0, h1, h2, h3, h4, h5, h6, h7⟩ := hS; go_simp⟩, fun _ => rfl⟩ hS ?_
            simp only [List.setIfInBounds_toArray, List.set_cons_zero, List.set_cons_succ]
            refine anyHF_take (i := 4) (d := 39) (v := .bool false) (by kernel_rfl) rfl (by kernel_rfl) (by kernel_rfl) (by kernel_rfl) rfl (fun _ _ _ h => h) ⟨Or.inl ⟨by rfl, fun w hS => by obtain ⟨h0, h1, h2, h3, h4, h5, h6, h7⟩ := hS; go_simp⟩, fun _ => rfl⟩ hS ?_
            simp only [List.setIfInBounds_toArray, List.set_cons_zero, List.set_cons_succ]
            refine anyHF_take (i := 5) (d := 40) (v := .agg #[.int .i64 zx, .int .i64 zy]) (by kernel_rfl) rfl (by kernel_rfl) (by kernel_rfl) (by kernel_rfl) rfl (fun _ _ _ h => h) ⟨Or.inl ⟨by rfl, fun w hS => by obtain ⟨h0, h1, h2, h3, h4, h5, h6, h7⟩ := hS; go_simp⟩, fun _ => rfl⟩ hS ?_
            simp only [List.setIfInBounds_toArray, List.set_cons_zero, List.set_cons_succ]
            refine anyHF_take (i := 6) (d := 41) (v := .slice (some ⟨gq, 0, none⟩) zs.length wcap) (by kernel_rfl) rfl (by kernel_rfl) (by kernel_rfl) (by kernel_rfl) rfl (fun _ _ _ h => h) ⟨Or.inl ⟨by rfl, fun w hS => by obtain ⟨h0, h1, h2, h3, h4, h5, h6, h7⟩ := hS; go_simp⟩, fun _ => rfl⟩ hS ?_
            simp only [List.setIfInBounds_toArray, List.set_cons_zero, List.set_cons_succ]
            refine anyHF_take (i := 7) (d := 42) (v := .int .i64 (pre.length : Int)) (by kernel_rfl) rfl (by kernel_rfl) (by kernel_rfl) (by kernel_rfl) rfl (fun _ _ _ h => h) ⟨Or.inl ⟨by rfl, fun w hS => by obtain ⟨h0, h1, h2, h3, h4, h5, h6, h7⟩ := hS; go_simp⟩, fun _ => rfl⟩ hS ?_
            simp only [List.setIfInBounds_toArray, List.set_cons_zero, List.set_cons_succ]
            refine anyHF_take (i := 8) (d := 43) (v := .pointer (some ⟨gq, pre.length * 2, none⟩)) (by kernel_rfl) rfl (by kernel_rfl) (by kernel_rfl) (by kernel_rfl) rfl (fun _ _ _ h => h) ⟨Or.inl ⟨by rfl, fun w hS => by obtain ⟨h0, h1, h2, h3, h4, h5, h6, h7⟩ := hS; go_simp⟩, fun _ => rfl⟩ hS ?_
            simp only [List.setIfInBounds_toArray, List.set_cons_zero, List.set_cons_succ]
            refine anyHF_take (i := 9) (d := 44) (v := .agg #[.int .i64 zx, .int .i64 qy]) (by kernel_rfl) rfl (by kernel_rfl) (by kernel_rfl) (by kernel_rfl) rfl (fun _ _ _ h => h) ⟨Or.inl ⟨by rfl, fun w hS => by obtain ⟨h0, h1, h2, h3, h4, h5, h6, h7⟩ := hS; go_simp⟩, fun _ => rfl⟩ hS ?_
            simp only [List.setIfInBounds_toArray, List.set_cons_zero, List.set_cons_succ]
            refine anyHF_take (i := 10) (d := 45) (v := .bool true) (by kernel_rfl) rfl (by kernel_rfl) (by kernel_rfl) (by kernel_rfl) rfl (fun _ _ _ h => h) ⟨Or.inl ⟨by rfl, fun w hS => by obtain ⟨h0, h1, h2, h3, h4, h5, h6, h7⟩ := hS; go_simp⟩, fun _ => rfl⟩ hS ?_
            simp only [List.setIfInBounds_toArray, List.set_cons_zero, List.set_cons_succ]
            refine anyHF_take (i := 11) (d := 46) (v := .bool true) (by kernel_rfl) rfl (by kernel_rfl) (by kernel_rfl) (by kernel_rfl) rfl (fun _ _ _ h => h) ⟨Or.inl ⟨by rfl, fun w hS => by obtain ⟨h0, h1, h2, h3, h4, h5, h6, h7⟩ := hS; go_simp⟩, fun _ => rfl⟩ hS ?_
            simp only [List.setIfInBounds_toArray, List.set_cons_zero, List.set_cons_succ]
            refine anyHF_take (i := 12) (d := 47) (v := .bool true) (by kernel_rfl) rfl (by kernel_rfl) (by kernel_rfl) (by kernel_rfl) rfl (fun _ _ _ h => h) ⟨Or.inl ⟨by rfl, fun w hS => by obtain ⟨h0, h1, h2, h3, h4, h5, h6, h7⟩ := hS; go_simp⟩, fun _ => rfl⟩ hS ?_
            simp only [List.setIfInBounds_toArray, List.set_cons_zero, List.set_cons_succ]
            refine anyHF_take (i := 13) (d := 48) (v := undef) (by kernel_rfl) rfl (by kernel_rfl) (by kernel_rfl) (by kernel_rfl) rfl (fun _ _ _ h => h) ⟨Or.inr ⟨by rfl, rfl⟩, fun _ => rfl⟩ hS ?_
            simp only [List.setIfInBounds_toArray, List.set_cons_zero, List.set_cons_succ]
            refine anyHF_take (i := 14) (d := 49) (v := undef) (by kernel_rfl) rfl (by kernel_rfl) (by kernel_rfl) (by kernel_rfl) rfl (fun _ _ _ h => h) ⟨Or.inr ⟨by rfl, rfl⟩, fun _ => rfl⟩ hS ?_
            simp only [List.setIfInBounds_toArray, List.set_cons_zero, List.set_cons_succ]
            refine anyHF_take (i := 15) (d := 50) (v := undef) (by kernel_rfl) rfl (by kernel_rfl) (by kernel_rfl) (by kernel_rfl) rfl (fun _ _ _ h => h) ⟨Or.inr ⟨by rfl, rfl⟩, fun _ => rfl⟩ hS ?_
            simp only [List.setIfInBounds_toArray, List.set_cons_zero, List.set_cons_succ]
            refine anyHF_skip (i := 16) (d := 51) (by kernel_rfl) rfl (by rfl) rfl wide_fn hS ?_
            simp only [List.setIfInBounds_toArray, List.set_cons_zero, List.set_cons_succ]
            refine anyHF_skip (i := 17) (d := 52) (by kernel_rfl) rfl (by rfl) rfl wide_fn hS ?_
            simp only [List.setIfInBounds_toArray, List.set_cons_zero, List.set_cons_succ]
            refine anyHF_take (i := 18) (d := 53) (v := undef) (by kernel_rfl) rfl (by kernel_rfl) (by kernel_rfl) (by kernel_rfl) rfl (fun _ _ _ h => h) ⟨Or.inr ⟨by rfl, rfl⟩, fun _ => rfl⟩ hS ?_
            simp only [List.setIfInBounds_toArray, List.set_cons_zero, List.set_cons_succ]
            refine anyHF_take (i := 19) (d := 54) (v := .bool true) (by kernel_rfl) rfl (by kernel_rfl) (by kernel_rfl) (by kernel_rfl) rfl (fun _ _ _ h => h) ⟨Or.inl ⟨by rfl, fun w hS => by obtain ⟨h0, h1, h2, h3, h4, h5, h6, h7⟩ := hS; go_simp⟩, fun _ => rfl⟩ hS ?_
            simp only [List.setIfInBounds_toArray, List.set_cons_zero, List.set_cons_succ]
            refine anyHF_done (by kernel_rfl) ?_ _
            gi_wp2
            exact ⟨none, .inl rfl, sinceO_set _ (by simp; omega) _ _, rfl, .inl ⟨rfl, HPN.out⟩⟩
        · have HPN := Lib.hid (hpn (fun e => ex (by injection e)))
          clear hpe hpn
          gi_wp2_with fail
          have hS : (fun U : World => U.cell? ⟨V.heap.size, 0, none⟩ = some (.int .i64 (pre.length : Int)) ∧ U.cell? ⟨w.heap.size + 1 + 1 + 1 + 1 + 1, 0, none⟩ = some (.slice (some ⟨gq, 0, none⟩) zs.length wcap) ∧ U.cell? ⟨Bx, 0, none⟩ = some (.int .i64 zx) ∧ U.cell? ⟨Bx, 1, none⟩ = some (.int .i64 zy) ∧ U.cell? ⟨w.heap.size, 0, none⟩ = some (.int .i64 k) ∧ U.cell? ⟨w.heap.size, 1, none⟩ = some (.int .i64 p) ∧ U.cell? ⟨gq, pre.length * 2, none⟩ = some (.int .i64 qx) ∧ U.cell? ⟨gq, pre.length * 2 + 1, none⟩ = some (.int .i64 qy)) W.drew := ⟨cn, cq, z0, z1, c0, c1, q0, q1⟩
          refine region_HF (S := (fun U : World => U.cell? ⟨V.heap.size, 0, none⟩ = some (.int .i64 (pre.length : Int)) ∧ U.cell? ⟨w.heap.size + 1 + 1 + 1 + 1 + 1, 0, none⟩ = some (.slice (some ⟨gq, 0, none⟩) zs.length wcap) ∧ U.cell? ⟨Bx, 0, none⟩ = some (.int .i64 zx) ∧ U.cell? ⟨Bx, 1, none⟩ = some (.int .i64 zy) ∧ U.cell? ⟨w.heap.size, 0, none⟩ = some (.int .i64 k) ∧ U.cell? ⟨w.heap.size, 1, none⟩ = some (.int .i64 p) ∧ U.cell? ⟨gq, pre.length * 2, none⟩ = some (.int .i64 qx) ∧ U.cell? ⟨gq, pre.length * 2 + 1, none⟩ = some (.int .i64 qy))) (by kernel_rfl) ?_
          refine anyHF_take (i := 0) (d := 35) (v := .int .i64 (pre.length : Int)) (by kernel_rfl) rfl (by kernel_rfl) (by kernel_rfl) (by kernel_rfl) rfl (fun _ _ _ h => h) ⟨Or.inl ⟨by rfl, fun w hS => by obtain ⟨h0, h1, h2, h3, h4, h5, h6, h7⟩ := hS; go_simp⟩, fun _ => rfl⟩ hS ?_
          simp only [List.setIfInBounds_toArray, List.set_cons_zero, List.set_cons_succ]
          refine anyHF_take (i := 1) (d := 36) (v := .slice (some ⟨gq, 0, none⟩) zs.length wcap) (by kernel_rfl) rfl (by kernel_rfl) (by kernel_rfl) (by kernel_rfl) rfl (fun _ _ _ h => h) ⟨Or.inl ⟨by rfl, fun w hS => by obtain ⟨h0, h1, h2, h3, h4, h5, h6, h7⟩ := hS; go_simp⟩, fun _ => rfl⟩ hS ?_
          simp only [List.setIfInBounds_toArray, List.set_cons_zero, List.set_cons_succ]
          refine anyHF_one (i := 2) (by kernel_rfl) rfl (by kernel_rfl) (by rfl) ?_
          gi_wp2
          refine anyHF_take (i := 3) (d := 38) (v := .bool false) (by kernel_rfl) rfl (by kernel_rfl) (by kernel_rfl) (by kernel_rfl) rfl (fun _ _ _ h => h) ⟨Or.inl ⟨by rfl, fun w hS => by obtain ⟨h0, h1, h2, h3, h4, h5, h6, h7⟩ := hS; go_simp⟩, fun _ => rfl⟩ hS ?_
          simp only [List.setIfInBounds_toArray, List.set_cons_zero, List.set_cons_succ]
          refine anyHF_take (i := 4) (d := 39) (v := .bool false) (by kernel_rfl) rfl (by kernel_rfl) (by kernel_rfl) (by kernel_rfl) rfl (fun _ _ _ h => h) ⟨Or.inl ⟨by rfl, fun w hS => by obtain ⟨h0, h1, h2, h3, h4, h5, h6, h7⟩ := hS; go_simp⟩, fun _ => rfl⟩ hS ?_
          simp only [List.setIfInBounds_toArray, List.set_cons_zero, List.set_cons_succ]
          refine anyHF_take (i := 5) (d := 40) (v := .agg #[.int .i64 zx, .int .i64 zy]) (by kernel_rfl) rfl (by kernel_rfl) (by kernel_rfl) (by kernel_rfl) rfl (fun _ _ _ h => h) ⟨Or.inl ⟨by rfl, fun w hS => by obtain ⟨h0, h1, h2, h3, h4, h5, h6, h7⟩ := hS; go_simp⟩, fun _ => rfl⟩ hS ?_
          simp only [List.setIfInBounds_toArray, List.set_cons_zero, List.set_cons_succ]
          refine anyHF_take (i := 6) (d := 41) (v := .slice (some ⟨gq, 0, none⟩) zs.length wcap) (by kernel_rfl) rfl (by kernel_rfl) (by kernel_rfl) (by kernel_rfl) rfl (fun _ _ _ h => h) ⟨Or.inl ⟨by rfl, fun w hS => by obtain ⟨h0, h1, h2, h3, h4, h5, h6, h7⟩ := hS; go_simp⟩, fun _ => rfl⟩ hS ?_
          simp only [List.setIfInBounds_toArray, List.set_cons_zero, List.set_cons_succ]
          refine anyHF_take (i := 7) (d := 42) (v := .int .i64 (pre.length : Int)) (by kernel_rfl) rfl (by kernel_rfl) (by kernel_rfl) (by kernel_rfl) rfl (fun _ _ _ h => h) ⟨Or.inl ⟨by rfl, fun w hS => by obtain ⟨h0, h1, h2, h3, h4, h5, h6, h7⟩ := hS; go_simp⟩, fun _ => rfl⟩ hS ?_
          simp only [List.setIfInBounds_toArray, List.set_cons_zero, List.set_cons_succ]
          refine anyHF_take (i := 8) (d := 43) (v := .pointer (some ⟨gq, pre.length * 2, none⟩)) (by kernel_rfl) rfl (by kernel_rfl) (by kernel_rfl) (by kernel_rfl) rfl (fun _ _ _ h => h) ⟨Or.inl ⟨by rfl, fun w hS => by obtain ⟨h0, h1, h2, h3, h4, h5, h6, h7⟩ := hS; go_simp⟩, fun _ => rfl⟩ hS ?_
          simp only [List.setIfInBounds_toArray, List.set_cons_zero, List.set_cons_succ]
          refine anyHF_take (i := 9) (d := 44) (v := .agg #[.int .i64 qx, .int .i64 qy]) (by kernel_rfl) rfl (by kernel_rfl) (by kernel_rfl) (by kernel_rfl) rfl (fun _ _ _ h => h) ⟨Or.inl ⟨by rfl, fun w hS => by obtain ⟨h0, h1, h2, h3, h4, h5, h6, h7⟩ := hS; go_simp⟩, fun _ => rfl⟩ hS ?_
          simp only [List.setIfInBounds_toArray, List.set_cons_zero, List.set_cons_succ]
          refine anyHF_take (i := 10) (d := 45) (v := .bool true) (by kernel_rfl) rfl (by kernel_rfl) (by kernel_rfl) (by kernel_rfl) rfl (fun _ _ _ h => h) ⟨Or.inl ⟨by rfl, fun w hS => by obtain ⟨h0, h1, h2, h3, h4, h5, h6, h7⟩ := hS; go_simp⟩, fun _ => rfl⟩ hS ?_
          simp only [List.setIfInBounds_toArray, List.set_cons_zero, List.set_cons_succ]
          refine anyHF_take (i := 11) (d := 46) (v := .bool true) (by kernel_rfl) rfl (by kernel_rfl) (by kernel_rfl) (by kernel_rfl) rfl (fun _ _ _ h => h) ⟨Or.inl ⟨by rfl, fun w hS => by obtain ⟨h0, h1, h2, h3, h4, h5, h6, h7⟩ := hS; go_simp⟩, fun _ => rfl⟩ hS ?_
          simp only [List.setIfInBounds_toArray, List.set_cons_zero, List.set_cons_succ]
          refine anyHF_take (i := 12) (d := 47) (v := .bool true) (by kernel_rfl) rfl (by kernel_rfl) (by kernel_rfl) (by kernel_rfl) rfl (fun _ _ _ h => h) ⟨Or.inl ⟨by rfl, fun w hS => by obtain ⟨h0, h1, h2, h3, h4, h5, h6, h7⟩ := hS; go_simp⟩, fun _ => rfl⟩ hS ?_
          simp only [List.setIfInBounds_toArray, List.set_cons_zero, List.set_cons_succ]
          refine anyHF_take (i := 13) (d := 48) (v := undef) (by kernel_rfl) rfl (by kernel_rfl) (by kernel_rfl) (by kernel_rfl) rfl (fun _ _ _ h => h) ⟨Or.inr ⟨by rfl, rfl⟩, fun _ => rfl⟩ hS ?_
          simp only [List.setIfInBounds_toArray, List.set_cons_zero, List.set_cons_succ]
          refine anyHF_take (i := 14) (d := 49) (v := undef) (by kernel_rfl) rfl (by kernel_rfl) (by kernel_rfl) (by kernel_rfl) rfl (fun _ _ _ h => h) ⟨Or.inr ⟨by rfl, rfl⟩, fun _ => rfl⟩ hS ?_
          simp only [List.setIfInBounds_toArray, List.set_cons_zero, List.set_cons_succ]
          refine anyHF_take (i := 15) (d := 50) (v := undef) (by kernel_rfl) rfl (by kernel_rfl) (by kernel_rfl) (by kernel_rfl) rfl (fun _ _ _ h => h) ⟨Or.inr ⟨by rfl, rfl⟩, fun _ => rfl⟩ hS ?_
          simp only [List.setIfInBounds_toArray, List.set_cons_zero, List.set_cons_succ]
          refine anyHF_skip (i := 16) (d := 51) (by kernel_rfl) rfl (by rfl) rfl wide_fn hS ?_
          simp only [List.setIfInBounds_toArray, List.set_cons_zero, List.set_cons_succ]
          refine anyHF_skip (i := 17) (d := 52) (by kernel_rfl) rfl (by rfl) rfl wide_fn hS ?_
          simp only [List.setIfInBounds_toArray, List.set_cons_zero, List.set_cons_succ]
          refine anyHF_take (i := 18) (d := 53) (v := undef) (by kernel_rfl) rfl (by kernel_rfl) (by kernel_rfl) (by kernel_rfl) rfl (fun _ _ _ h => h) ⟨Or.inr ⟨by rfl, rfl⟩, fun _ => rfl⟩ hS ?_
          simp only [List.setIfInBounds_toArray, List.set_cons_zero, List.set_cons_succ]
          refine anyHF_take (i := 19) (d := 54) (v := .bool true) (by kernel_rfl) rfl (by kernel_rfl) (by kernel_rfl) (by kernel_rfl) rfl (fun _ _ _ h => h) ⟨Or.inl ⟨by rfl, fun w hS => by obtain ⟨h0, h1, h2, h3, h4, h5, h6, h7⟩ := hS; go_simp⟩, fun _ => rfl⟩ hS ?_
          simp only [List.setIfInBounds_toArray, List.set_cons_zero, List.set_cons_succ]
          refine anyHF_done (by kernel_rfl) ?_ _
          gi_wp2
          exact ⟨none, .inl rfl, sinceO_set _ (by simp; omega) _ _, rfl, .inl ⟨rfl, HPN.out⟩⟩
      · have dp : decide ((zs.length : Int) ≤ (pre.length : Int)) = true := decide_eq_true (by omega)
        have HN := Lib.hid (prefix_not (zs := zs) (pre := pre) (x := ((zx, zy), zv)) (fun h => by omega))
        gi_wp2_with fail
        have hS : (fun U : World => U.cell? ⟨V.heap.size, 0, none⟩ = some (.int .i64 (pre.length : Int)) ∧ U.cell? ⟨w.heap.size + 1 + 1 + 1 + 1 + 1, 0, none⟩ = some (.slice wq zs.length wcap) ∧ U.cell? ⟨Bx, 0, none⟩ = some (.int .i64 zx) ∧ U.cell? ⟨Bx, 1, none⟩ = some (.int .i64 zy) ∧ U.cell? ⟨w.heap.size, 0, none⟩ = some (.int .i64 k) ∧ U.cell? ⟨w.heap.size, 1, none⟩ = some (.int .i64 p)) W.drew := ⟨cn, cq, z0, z1, c0, c1⟩
        refine region_HF (S := (fun U : World => U.cell? ⟨V.heap.size, 0, none⟩ = some (.int .i64 (pre.length : Int)) ∧ U.cell? ⟨w.heap.size + 1 + 1 + 1 + 1 + 1, 0, none⟩ = some (.slice wq zs.length wcap) ∧ U.cell? ⟨Bx, 0, none⟩ = some (.int .i64 zx) ∧ U.cell? ⟨Bx, 1, none⟩ = some (.int .i64 zy) ∧ U.cell? ⟨w.heap.size, 0, none⟩ = some (.int .i64 k) ∧ U.cell? ⟨w.heap.size, 1, none⟩ = some (.int .i64 p))) (by kernel_rfl) ?_
        refine anyHF_take (i := 0) (d := 35) (v := .int .i64 (pre.length : Int)) (by kernel_rfl) rfl (by kernel_rfl) (by kernel_rfl) (by kernel_rfl) rfl (fun _ _ _ h => h) ⟨Or.inl ⟨by rfl, fun w hS => by obtain ⟨h0, h1, h2, h3, h4, h5⟩ := hS; go_simp⟩, fun _ => rfl⟩ hS ?_
        simp only [List.setIfInBounds_toArray, List.set_cons_zero, List.set_cons_succ]
        refine anyHF_take (i := 1) (d := 36) (v := .slice wq zs.length wcap) (by kernel_rfl) rfl (by kernel_rfl) (by kernel_rfl) (by kernel_rfl) rfl (fun _ _ _ h => h) ⟨Or.inl ⟨by rfl, fun w hS => by obtain ⟨h0, h1, h2, h3, h4, h5⟩ := hS; go_simp⟩, fun _ => rfl⟩ hS ?_
        simp only [List.setIfInBounds_toArray, List.set_cons_zero, List.set_cons_succ]
        refine anyHF_one (i := 2) (by kernel_rfl) rfl (by kernel_rfl) (by rfl) ?_
        gi_wp2
        refine anyHF_take (i := 3) (d := 38) (v := .bool true) (by kernel_rfl) rfl (by kernel_rfl) (by kernel_rfl) (by kernel_rfl) rfl (fun _ _ _ h => h) ⟨Or.inl ⟨by rfl, fun w hS => by obtain ⟨h0, h1, h2, h3, h4, h5⟩ := hS; go_simp⟩, fun _ => rfl⟩ hS ?_
        simp only [List.setIfInBounds_toArray, List.set_cons_zero, List.set_cons_succ]
        refine anyHF_take (i := 4) (d := 39) (v := .bool true) (by kernel_rfl) rfl (by kernel_rfl) (by kernel_rfl) (by kernel_rfl) rfl (fun _ _ _ h => h) ⟨Or.inl ⟨by rfl, fun w hS => by obtain ⟨h0, h1, h2, h3, h4, h5⟩ := hS; go_simp⟩, fun _ => rfl⟩ hS ?_
        simp only [List.setIfInBounds_toArray, List.set_cons_zero, List.set_cons_succ]
        refine anyHF_take (i := 5) (d := 40) (v := undef) (by kernel_rfl) rfl (by kernel_rfl) (by kernel_rfl) (by kernel_rfl) rfl (fun _ _ _ h => h) ⟨Or.inr ⟨by rfl, rfl⟩, fun _ => rfl⟩ hS ?_
        simp only [List.setIfInBounds_toArray, List.set_cons_zero, List.set_cons_succ]
        refine anyHF_take (i := 6) (d := 41) (v := undef) (by kernel_rfl) rfl (by kernel_rfl) (by kernel_rfl) (by kernel_rfl) rfl (fun _ _ _ h => h) ⟨Or.inr ⟨by rfl, rfl⟩, fun _ => rfl⟩ hS ?_
        simp only [List.setIfInBounds_toArray, List.set_cons_zero, List.set_cons_succ]
        refine anyHF_take (i := 7) (d := 42) (v := undef) (by kernel_rfl) rfl (by kernel_rfl) (by kernel_rfl) (by kernel_rfl) rfl (fun _ _ _ h => h) ⟨Or.inr ⟨by rfl, rfl⟩, fun _ => rfl⟩ hS ?_
        simp only [List.setIfInBounds_toArray, List.set_cons_zero, List.set_cons_succ]
        refine anyHF_take (i := 8) (d := 43) (v := undef) (by kernel_rfl) rfl (by kernel_rfl) (by kernel_rfl) (by kernel_rfl) rfl (fun _ _ _ h => h) ⟨Or.inr ⟨by rfl, rfl⟩, fun _ => rfl⟩ hS ?_
        simp only [List.setIfInBounds_toArray, List.set_cons_zero, List.set_cons_succ]
        refine anyHF_take (i := 9) (d := 44) (v := undef) (by kernel_rfl) rfl (by kernel_rfl) (by kernel_rfl) (by kernel_rfl) rfl (fun _ _ _ h => h) ⟨Or.inr ⟨by rfl, rfl⟩, fun _ => rfl⟩ hS ?_
        simp only [List.setIfInBounds_toArray, List.set_cons_zero, List.set_cons_succ]
        refine anyHF_take (i := 10) (d := 45) (v := undef) (by kernel_rfl) rfl (by kernel_rfl) (by kernel_rfl) (by kernel_rfl) rfl (fun _ _ _ h => h) ⟨Or.inr ⟨by rfl, rfl⟩, fun _ => rfl⟩ hS ?_
        simp only [List.setIfInBounds_toArray, List.set_cons_zero, List.set_cons_succ]
        refine anyHF_take (i := 11) (d := 46) (v := .bool true) (by kernel_rfl) rfl (by kernel_rfl) (by kernel_rfl) (by kernel_rfl) rfl (fun _ _ _ h => h) ⟨Or.inl ⟨by rfl, fun w hS => by obtain ⟨h0, h1, h2, h3, h4, h5⟩ := hS; go_simp⟩, fun _ => rfl⟩ hS ?_
        simp only [List.setIfInBounds_toArray, List.set_cons_zero, List.set_cons_succ]
        refine anyHF_take (i := 12) (d := 47) (v := .bool true) (by kernel_rfl) rfl (by kernel_rfl) (by kernel_rfl) (by kernel_rfl) rfl (fun _ _ _ h => h) ⟨Or.inl ⟨by rfl, fun w hS => by obtain ⟨h0, h1, h2, h3, h4, h5⟩ := hS; go_simp⟩, fun _ => rfl⟩ hS ?_
        simp only [List.setIfInBounds_toArray, List.set_cons_zero, List.set_cons_succ]
        refine anyHF_take (i := 13) (d := 48) (v := undef) (by kernel_rfl) rfl (by kernel_rfl) (by kernel_rfl) (by kernel_rfl) rfl (fun _ _ _ h => h) ⟨Or.inr ⟨by rfl, rfl⟩, fun _ => rfl⟩ hS ?_
        simp only [List.setIfInBounds_toArray, List.set_cons_zero, List.set_cons_succ]
        refine anyHF_take (i := 14) (d := 49) (v := undef) (by kernel_rfl) rfl (by kernel_rfl) (by kernel_rfl) (by kernel_rfl) rfl (fun _ _ _ h => h) ⟨Or.inr ⟨by rfl, rfl⟩, fun _ => rfl⟩ hS ?_
        simp only [List.setIfInBounds_toArray, List.set_cons_zero, List.set_cons_succ]
        refine anyHF_take (i := 15) (d := 50) (v := undef) (by kernel_rfl) rfl (by kernel_rfl) (by kernel_rfl) (by kernel_rfl) rfl (fun _ _ _ h => h) ⟨Or.inr ⟨by rfl, rfl⟩, fun _ => rfl⟩ hS ?_
        simp only [List.setIfInBounds_toArray, List.set_cons_zero, List.set_cons_succ]
        refine anyHF_skip (i := 16) (d := 51) (by kernel_rfl) rfl (by rfl) rfl wide_fn hS ?_
        simp only [List.setIfInBounds_toArray, List.set_cons_zero, List.set_cons_succ]
        refine anyHF_skip (i := 17) (d := 52) (by kernel_rfl) rfl (by rfl) rfl wide_fn hS ?_
        simp only [List.setIfInBounds_toArray, List.set_cons_zero, List.set_cons_succ]
        refine anyHF_take (i := 18) (d := 53) (v := undef) (by kernel_rfl) rfl (by kernel_rfl) (by kernel_rfl) (by kernel_rfl) rfl (fun _ _ _ h => h) ⟨Or.inr ⟨by rfl, rfl⟩, fun _ => rfl⟩ hS ?_
        simp only [List.setIfInBounds_toArray, List.set_cons_zero, List.set_cons_succ]
        refine anyHF_take (i := 19) (d := 54) (v := .bool true) (by kernel_rfl) rfl (by kernel_rfl) (by kernel_rfl) (by kernel_rfl) rfl (fun _ _ _ h => h) ⟨Or.inl ⟨by rfl, fun w hS => by obtain ⟨h0, h1, h2, h3, h4, h5⟩ := hS; go_simp⟩, fun _ => rfl⟩ hS ?_
        simp only [List.setIfInBounds_toArray, List.set_cons_zero, List.set_cons_succ]
        refine anyHF_done (by kernel_rfl) ?_ _
        gi_wp2
        exact ⟨none, .inl rfl, sinceO_set _ (by simp; omega) _ _, rfl, .inl ⟨rfl, HN.out⟩⟩
    case done_0 =>
      rintro D ys o W hD _ hys ⟨rfl, ⟨hpre, hcnd⟩, hn, hB⟩ hKD _
      have hlen : (ys.length : Int) = (zs.length : Int) := by rw [← hys, List.length_map]
      rw [hlen] at hn
      have hmin : ((zs.length : Int) != min (zs.length : Int) (max 1 many)) = false := by
        rw [bne_eq_false_iff_eq]; rcases hcnd with h | h <;> omega
      have cn := hn.one
      have cq := (F.q.below hB F.q.lt).one
      have cty := (ct.below hB ct.lt).one
      have cmx := (F.m.below hB F.m.lt).one
      have lt0 := hB.size
      gi_wp2
      all_goals
        obtain ⟨V1, hV1⟩ : ∃ V1, W.alloc (.cells #[.int .i64 1] 3) = V1 := ⟨_, rfl⟩
        rw [hV1]
        have hB1 : Below V.heap.size V V1 := by rw [← hV1]; exact hB.alloc hB.size _
        have ct1 : Blk V1 W.heap.size 3 #[.int .i64 (1 : Nat)] := by rw [← hV1]; exact Blk.new _ _ _
        have hlD := (Array.getElem?_eq_some_iff.1 hKD).1
        have hD1 : V1.heap[D]? = some (.deferred (some [])) := by rw [← hV1]; exact (Below.heap_alloc W _ D hlD).trans hKD
        have hL1 := hLeft.more hB1 (by have := hW.size; simp at hD; omega) (by simp at hD; omega) hD1
        have hz := fun (z11 z12 z26 z27 z28 z29 z30 z31 z32 z64 z65 z66 z67 z68 z69 z70 z71 z72 z73 z74 z75 z76 z77 z78 z79 z80 z81 z82 z83 z84 z85 : Value) hr => hK 1 [z11, z12, z26, z27, z28, z29, z30, z31, z32, z64, z65, z66, z67, z68, z69, z70, z71, z72, z73, z74, z75, z76, z77, z78, z79, z80, z81, z82, z83, z84, z85] (D :: Ds) V1 (by omega) hr
        simp only [sets, List.setIfInBounds_toArray, List.set_cons_zero, List.set_cons_succ] at hz
        refine hz _ _ _ _ _ _ _ _ _ _ _ _ _ _ _ _ _ _ _ _ _ _ _ _ _ _ _ _ _ _ _ ⟨1, W.heap.size, _, _, _, _, _, _, _, _, _, _, _, _, _, _, _, _, _, _, _, _, _, _, _, _, _, _, _, _, _, _, rfl, by omega, by omega, ct1, F.next hB1, hL1, below_in hBV hB1⟩
    case stop_0 =>
      rintro D c pre o W hD _ hsp ⟨rfl, hor⟩ hKD _
      rcases hor with ⟨rfl, h⟩ | ⟨⟨rfl, hx1, hx2, hx3, hpre⟩, hn, hB⟩
      · exact absurd hsp h
      have hple := hpre.length_le
      rw [List.length_map] at hple
      have hmin : ((pre.length : Int) != min (zs.length : Int) (max 1 many)) = false := by
        rw [bne_eq_false_iff_eq]; rcases hx2 with h | h <;> omega
      have cn := hn.one
      have cq := (F.q.below hB F.q.lt).one
      have cty := (ct.below hB ct.lt).one
      have cmx := (F.m.below hB F.m.lt).one
      have lt0 := hB.size
      gi_wp2
      all_goals
        obtain ⟨V1, hV1⟩ : ∃ V1, W.alloc (.cells #[.int .i64 1] 3) = V1 := ⟨_, rfl⟩
        rw [hV1]
        have hB1 : Below V.heap.size V V1 := by rw [← hV1]; exact hB.alloc hB.size _
        have ct1 : Blk V1 W.heap.size 3 #[.int .i64 (1 : Nat)] := by rw [← hV1]; exact Blk.new _ _ _
        have hlD := (Array.getElem?_eq_some_iff.1 hKD).1
        have hD1 : V1.heap[D]? = some (.deferred (some [])) := by rw [← hV1]; exact (Below.heap_alloc W _ D hlD).trans hKD
        have hL1 := hLeft.more hB1 (by have := hW.size; simp at hD; omega) (by simp at hD; omega) hD1
        have hz := fun (z11 z12 z26 z27 z28 z29 z30 z31 z32 z64 z65 z66 z67 z68 z69 z70 z71 z72 z73 z74 z75 z76 z77 z78 z79 z80 z81 z82 z83 z84 z85 : Value) hr => hK 1 [z11, z12, z26, z27, z28, z29, z30, z31, z32, z64, z65, z66, z67, z68, z69, z70, z71, z72, z73, z74, z75, z76, z77, z78, z79, z80, z81, z82, z83, z84, z85] (D :: Ds) V1 (by omega) hr
        simp only [sets, List.setIfInBounds_toArray, List.set_cons_zero, List.set_cons_succ] at hz
        refine hz _ _ _ _ _ _ _ _ _ _ _ _ _ _ _ _ _ _ _ _ _ _ _ _ _ _ _ _ _ _ _ ⟨1, W.heap.size, _, _, _, _, _, _, _, _, _, _, _, _, _, _, _, _, _, _, _, _, _, _, _, _, _, _, _, _, _, _, rfl, by omega, by omega, ct1, F.next hB1, hL1, below_in hBV hB1⟩
  · gi_wp2_with fail
    have hnb : Blk (V.alloc (.cells #[.int .i64 0] 3)) V.heap.size 3 #[.int .i64 (([] : List ((Int × Int) × Value)).length : Int)] := Blk.new _ _ _
    refine wpIn_rangeBoxB rfl (by omega) (gf := gf) (pa := pa) (lb := lb) rfl trivial eg (hg 19 (by omega)) (fun h h' => h.trans h') (fun W l o hl _ hlp => ⟨Keep.putFar W (by simp at hl; omega) o, fun h => laid_put h hlp o⟩) (below_in (below_in hB70 hBV) (below_one V _)) (fun _ => rfl)
      (fun pre o W => o = none ∧ (pre.map (·.1) <+: zs ∧ True) ∧ Told V.heap.size V pre W)
      (fun c pre o W => o = none ∧ ((c = .ret ∧ ¬ (pre.map (·.1) <+: zs)) ∨ (False ∧ Told V.heap.size V pre W)))
      ?hI_1 ?hIx_1 none (fun b e => by cases e) ⟨rfl, ⟨List.nil_prefix, trivial⟩, hnb, below_one V _⟩
      (fun x W => LineOk k p zs x W) (fun x W l ob hl h => by obtain ⟨r, hr⟩ := hl; exact LineOk.put hr h) 26 (fun x : (Int × Int) × Value => #[.int .i64 x.1.1, .int .i64 x.1.2]) ?a1_1
      ?assign_1 (fun pre o W h => by rw [h.1]; exact rowO_none W) (fun c pre o W h => by rw [h.1]; exact rowO_none W) ?body_1 ?done_1 ?stop_1
    case hI_1 =>
      rintro s o X Y row ⟨rfl, hp, ht⟩ hgr hr
      exact ⟨rfl, hp, told_grown ht (by simp) (by simp) hgr hr⟩
    case hIx_1 =>
      rintro c s o X Y row ⟨rfl, h⟩ hgr hr
      exact ⟨rfl, h.imp id fun h => ⟨h.1, told_grown h.2 (by simp) (by simp) hgr hr⟩⟩
    case assign_1 =>
      rintro l' pre x o W K hsz hol ⟨rfl, hp, hn, hB⟩ hok hK
      gi_wp2
      have hbx := Blk.new W 26 #[.int .i64 x.1.1, .int .i64 x.1.2]
      have hBz := below_one W (.cells #[.int .i64 x.1.1, .int .i64 x.1.2] 26)
      have hsn := hn.lt
      have hSi : SinceO (V.alloc (.cells #[.int .i64 0] 3)).heap.size none W (W.alloc (.cells #[.int .i64 x.1.1, .int .i64 x.1.2] 26)) := SinceO.below hBz
      have hKe : KeepL W6.heap.size (w7.heap.size - W6.heap.size) W (W.alloc (.cells #[.int .i64 x.1.1, .int .i64 x.1.2] 26)) := ⟨Keep.alloc (by omega) _, fun h => h.next hBz⟩
      have hTo : Told V.heap.size V pre (W.alloc (.cells #[.int .i64 x.1.1, .int .i64 x.1.2] 26)) := ⟨hn.alloc _, hB.alloc hB.size _⟩
      have hok2 : LineOk k p zs x (W.alloc (.cells #[.int .i64 x.1.1, .int .i64 x.1.2] 26)) := ⟨hok.1, hok.2.next hBz⟩
      clear hBz hok
      generalize W.alloc (.cells #[.int .i64 x.1.1, .int .i64 x.1.2] 26) = W' at *
      generalize W.heap.size = Bx at *
      exact hK Bx W' hSi hKe ⟨by first | rfl | trivial, hp, hTo⟩ hbx (by simp) hsz hok2
    case body_1 =>
      rintro l' pre x o Bx W hsz ⟨rfl, ⟨hpre, hcnd⟩, hn, hB⟩ hbx hne hle hok hlt
      obtain ⟨⟨zx, zy⟩, zv⟩ := x
      simp only at hbx
      have hple := hpre.length_le
      rw [List.length_map] at hple
      have cn := hn.one
      have fn := hn.frozen 0
      have cq := (F.q.below hB F.q.lt).one
      have cty := (ct.below hB ct.lt).one
      have cmx := (F.m.below hB F.m.lt).one
      have crx := (F.r.below hB F.r.lt).one
      have frx := (F.r.below hB F.r.lt).frozen 0
      have c0 := (F.b0.below hB F.b0.lt).cell 0
      have c1 := (F.b0.below hB F.b0.lt).cell 1
      have z0 := hbx.cell 0
      have z1 := hbx.cell 1
      simp only [List.getElem?_toArray, List.getElem?_cons_zero, List.getElem?_cons_succ] at c0 c1 z0 z1
      have hbs := hB.size
      have hX := Below.refl W.heap.size W
      rcases Nat.lt_or_ge pre.length zs.length with hlz | hlz
      · have dp : decide ((zs.length : Int) ≤ (pre.length : Int)) = false := decide_eq_false (by omega)
        obtain ⟨gq, rfl, hgq, q0, q1⟩ : ∃ gq, wq = some ⟨gq, 0, none⟩ ∧ gq < V.heap.size ∧ V.cell? ⟨gq, pre.length * 2, none⟩ = some (.int .i64 (zs[pre.length]).1) ∧ V.cell? ⟨gq, pre.length * 2 + 1, none⟩ = some (.int .i64 (zs[pre.length]).2) := by obtain ⟨pq, cq2, e, hc⟩ := F.rd; obtain ⟨g2, e2, h1, h2, h3⟩ := hc _ hlz; injection e with e3 _ _; exact ⟨g2, e3.trans e2, h1, h2, h3⟩
        replace q0 := nextc q0 hB
        replace q1 := nextc q1 hB
        have i1 : (0 : Int) ≤ (pre.length : Int) := by omega
        have i2 : (pre.length : Int) < (zs.length : Int) := by omega
        have hpe := fun h => prefix_elem (x := ((zx, zy), zv)) hpre hlz h
        have hpn := fun (h : ((zx, zy) : Int × Int) ≠ zs[pre.length]) => prefix_not (x := ((zx, zy), zv)) (zs := zs) (pre := pre) (fun _ => h)
        generalize zs[pre.length] = z at *
        obtain ⟨qx, qy⟩ := z
        simp only at q0 q1 hpe
        by_cases ex : zx = qx
        · subst ex
          by_cases ey : zy = qy
          · subst ey
            have HPE := Lib.hid (hpe rfl)
            clear hpe hpn
            have hzm := hok.1
            have HRMz := Lib.hid (HRM.out (zx, zy) hzm)
            have hln := HMl.out (zx, zy) hzm
            have hrd := hok.2.readA
            simp only at HRMz hln hrd
            clear hok hzm
            generalize memL k p zx zy = ml at *
            gi_wp2_with fail
            have hS : (fun U : World => U.cell? ⟨V.heap.size, 0, none⟩ = some (.int .i64 (pre.length : Int)) ∧ U.cell? ⟨w.heap.size + 1 + 1 + 1 + 1 + 1, 0, none⟩ = some (.slice (some ⟨gq, 0, none⟩) zs.length wcap) ∧ U.cell? ⟨Bx, 0, none⟩ = some (.int .i64 zx) ∧ U.cell? ⟨Bx, 1, none⟩ = some (.int .i64 zy) ∧ U.cell? ⟨w.heap.size, 0, none⟩ = some (.int .i64 k) ∧ U.cell? ⟨w.heap.size, 1, none⟩ = some (.int .i64 p) ∧ U.cell? ⟨gq, pre.length * 2, none⟩ = some (.int .i64 zx) ∧ U.cell? ⟨gq, pre.length * 2 + 1, none⟩ = some (.int .i64 zy)) W.drew := ⟨cn, cq, z0, z1, c0, c1, q0, q1⟩
            refine region_HF (S := (fun U : World => U.cell? ⟨V.heap.size, 0, none⟩ = some (.int .i64 (pre.length : Int)) ∧ U.cell? ⟨w.heap.size + 1 + 1 + 1 + 1 + 1, 0, none⟩ = some (.slice (some ⟨gq, 0, none⟩) zs.length wcap) ∧ U.cell? ⟨Bx, 0, none⟩ = some (.int .i64 zx) ∧ U.cell? ⟨Bx, 1, none⟩ = some (.int .i64 zy) ∧ U.cell? ⟨w.heap.size, 0, none⟩ = some (.int .i64 k) ∧ U.cell? ⟨w.heap.size, 1, none⟩ = some (.int .i64 p) ∧ U.cell? ⟨gq, pre.length * 2, none⟩ = some (.int .i64 zx) ∧ U.cell? ⟨gq, pre.length * 2 + 1, none⟩ = some (.int .i64 zy))) (by kernel_rfl) ?_
            refine anyHF_take (i := 0) (d := 35) (v := .int .i64 (pre.length : Int)) (by kernel_rfl) rfl (by kernel_rfl) (by kernel_rfl) (by kernel_rfl) rfl (fun _ _ _ h => h) ⟨Or.inl ⟨by rfl, fun w hS => by obtain ⟨h0, h1, h2, h3, h4, h5, h6, h7⟩ := hS; go_simp⟩, fun _ => rfl⟩ hS ?_
            simp only [List.setIfInBounds_toArray, List.set_cons_zero, List.set_cons_succ]
            refine anyHF_take (i := 1) (d := 36) (v := .slice (some ⟨gq, 0, none⟩) zs.length wcap) (by kernel_rfl) rfl (by kernel_rfl) (by kernel_rfl) (by kernel_rfl) rfl (fun _ _ _ h => h) ⟨Or.inl ⟨by rfl, fun w hS => by obtain ⟨h0, h1, h2, h3, h4, h5, h6, h7⟩ := hS; go_simp⟩, fun _ => rfl⟩ hS ?_
            simp only [List.setIfInBounds_toArray, List.set_cons_zero, List.set_cons_succ]
            refine anyHF_one (i := 2) (by kernel_rfl) rfl (by kernel_rfl) (by rfl) ?_
            gi_wp2
            refine anyHF_take (i := 3) (d := 38) (v := .bool false) (by kernel_rfl) rfl (by kernel_rfl) (by kernel_rfl) (by kernel_rfl) rfl (fun _ _ _ h => h) ⟨Or.inl ⟨by rfl, fun w hS => by obtain ⟨h0, h1, h2, h3, h4, h5, h6, h7⟩ := hS; go_simp⟩, fun _ => rfl⟩ hS ?_
            simp only [List.setIfInBounds_toArray, List.set_cons_zero, List.set_cons_succ]
            refine anyHF_take (i := 4) (d := 39) (v := .bool false) (by kernel_rfl) rfl (by kernel_rfl) (by kernel_rfl) (by kernel_rfl) rfl (fun _ _ _ h => h) ⟨Or.inl ⟨by rfl, fun w hS => by obtain ⟨h0, h1, h2, h3, h4, h5, h6, h7⟩ := hS; go_simp⟩, fun _ => rfl⟩ hS ?_
            simp only [List.setIfInBounds_toArray, List.set_cons_zero, List.set_cons_succ]
            refine anyHF_take (i := 5) (d := 40) (v := .agg #[.int .i64 zx, .int .i64 zy]) (by kernel_rfl) rfl (by kernel_rfl) (by kernel_rfl) (by kernel_rfl) rfl (fun _ _ _ h => h) ⟨Or.inl ⟨by rfl, fun w hS => by obtain ⟨h0, h1, h2, h3, h4, h5, h6, h7⟩ := hS; go_simp⟩, fun _ => rfl⟩ hS ?_
            simp only [List.setIfInBounds_toArray, List.set_cons_zero, List.set_cons_succ]
            refine anyHF_take (i := 6) (d := 41) (v := .slice (some ⟨gq, 0, none⟩) zs.length wcap) (by kernel_rfl) rfl (by kernel_rfl) (by kernel_rfl) (by kernel_rfl) rfl (fun _ _ _ h => h) ⟨Or.inl ⟨by rfl, fun w hS => by obtain ⟨h0, h1, h2, h3, h4, h5, h6, h7⟩ := hS; go_simp⟩, fun _ => rfl⟩ hS ?_
            simp only [List.setIfInBounds_toArray, List.set_cons_zero, List.set_cons_succ]
            refine anyHF_take (i := 7) (d := 42) (v := .int .i64 (pre.length : Int)) (by kernel_rfl) rfl (by kernel_rfl) (by kernel_rfl) (by kernel_rfl) rfl (fun _ _ _ h => h) ⟨Or.inl ⟨by rfl, fun w hS => by obtain ⟨h0, h1, h2, h3, h4, h5, h6, h7⟩ := hS; go_simp⟩, fun _ => rfl⟩ hS ?_
            simp only [List.setIfInBounds_toArray, List.set_cons_zero, List.set_cons_succ]
            refine anyHF_take (i := 8) (d := 43) (v := .pointer (some ⟨gq, pre.length * 2, none⟩)) (by kernel_rfl) rfl (by kernel_rfl) (by kernel_rfl) (by kernel_rfl) rfl (fun _ _ _ h => h) ⟨Or.inl ⟨by rfl, fun w hS => by obtain ⟨h0, h1, h2, h3, h4, h5, h6, h7⟩ := hS; go_simp⟩, fun _ => rfl⟩ hS ?_
            simp only [List.setIfInBounds_toArray, List.set_cons_zero, List.set_cons_succ]
            refine anyHF_take (i := 9) (d := 44) (v := .agg #[.int .i64 zx, .int .i64 zy]) (by kernel_rfl) rfl (by kernel_rfl) (by kernel_rfl) (by kernel_rfl) rfl (fun _ _ _ h => h) ⟨Or.inl ⟨by rfl, fun w hS => by obtain ⟨h0, h1, h2, h3, h4, h5, h6, h7⟩ := hS; go_simp⟩, fun _ => rfl⟩ hS ?_
            simp only [List.setIfInBounds_toArray, List.set_cons_zero, List.set_cons_succ]
            refine anyHF_take (i := 10) (d := 45) (v := .bool false) (by kernel_rfl) rfl (by kernel_rfl) (by kernel_rfl) (by kernel_rfl) rfl (fun _ _ _ h => h) ⟨Or.inl ⟨by rfl, fun w hS => by obtain ⟨h0, h1, h2, h3, h4, h5, h6, h7⟩ := hS; go_simp⟩, fun _ => rfl⟩ hS ?_
            simp only [List.setIfInBounds_toArray, List.set_cons_zero, List.set_cons_succ]
            refine anyHF_take (i := 11) (d := 46) (v := .bool false) (by kernel_rfl) rfl (by kernel_rfl) (by kernel_rfl) (by kernel_rfl) rfl (fun _ _ _ h => h) ⟨Or.inl ⟨by rfl, fun w hS => by obtain ⟨h0, h1, h2, h3, h4, h5, h6, h7⟩ := hS; go_simp⟩, fun _ => rfl⟩ hS ?_
            simp only [List.setIfInBounds_toArray, List.set_cons_zero, List.set_cons_succ]
            refine anyHF_take (i := 12) (d := 47) (v := .bool false) (by kernel_rfl) rfl (by kernel_rfl) (by kernel_rfl) (by kernel_rfl) rfl (fun _ _ _ h => h) ⟨Or.inl ⟨by rfl, fun w hS => by obtain ⟨h0, h1, h2, h3, h4, h5, h6, h7⟩ := hS; go_simp⟩, fun _ => rfl⟩ hS ?_
            simp only [List.setIfInBounds_toArray, List.set_cons_zero, List.set_cons_succ]
            refine anyHF_take (i := 13) (d := 48) (v := zv) (by kernel_rfl) rfl (by kernel_rfl) (by kernel_rfl) (by kernel_rfl) rfl (fun _ _ _ h => h) ⟨Or.inl ⟨by rfl, fun w hS => by obtain ⟨h0, h1, h2, h3, h4, h5, h6, h7⟩ := hS; go_simp⟩, fun _ => rfl⟩ hS ?_
            simp only [List.setIfInBounds_toArray, List.set_cons_zero, List.set_cons_succ]
            refine anyHF_take (i := 14) (d := 49) (v := .agg #[.int .i64 k, .int .i64 p]) (by kernel_rfl) rfl (by kernel_rfl) (by kernel_rfl) (by kernel_rfl) rfl (fun _ _ _ h => h) ⟨Or.inl ⟨by rfl, fun w hS => by obtain ⟨h0, h1, h2, h3, h4, h5, h6, h7⟩ := hS; go_simp⟩, fun _ => rfl⟩ hS ?_
            simp only [List.setIfInBounds_toArray, List.set_cons_zero, List.set_cons_succ]
            refine anyHF_take (i := 15) (d := 50) (v := .agg #[.int .i64 zx, .int .i64 zy]) (by kernel_rfl) rfl (by kernel_rfl) (by kernel_rfl) (by kernel_rfl) rfl (fun _ _ _ h => h) ⟨Or.inl ⟨by rfl, fun w hS => by obtain ⟨h0, h1, h2, h3, h4, h5, h6, h7⟩ := hS; go_simp⟩, fun _ => rfl⟩ hS ?_
            simp only [List.setIfInBounds_toArray, List.set_cons_zero, List.set_cons_succ]
            refine anyHF_one (i := 16) (by kernel_rfl) rfl (by kernel_rfl) (by rfl) ?_
            gi_wp2_with fail
            refine ⟨trivial, (CallsIn.inRound l' (callsIn_wide.2 (HRMz.out _))).mono ?_⟩
            rintro e X2 ⟨v2, rfl, ho2, hB2⟩
            replace hB2 := below_undrew hB2
            have hX2 := below_in hX hB2
            replace hX := hX2
            clear hX2 hS
            replace cn := nextc cn hB2
            replace cq := nextc cq hB2
            replace z0 := nextc z0 hB2
            replace z1 := nextc z1 hB2
            replace c0 := nextc c0 hB2
            replace c1 := nextc c1 hB2
            replace q0 := nextc q0 hB2
            replace q1 := nextc q1 hB2
            have hr2 := ho2.readA
            replace hrd := hrd.next hB2
            clear ho2 HRMz
            have hS : (fun U : World => U.cell? ⟨V.heap.size, 0, none⟩ = some (.int .i64 (pre.length : Int)) ∧ U.cell? ⟨w.heap.size + 1 + 1 + 1 + 1 + 1, 0, none⟩ = some (.slice (some ⟨gq, 0, none⟩) zs.length wcap) ∧ U.cell? ⟨Bx, 0, none⟩ = some (.int .i64 zx) ∧ U.cell? ⟨Bx, 1, none⟩ = some (.int .i64 zy) ∧ U.cell? ⟨w.heap.size, 0, none⟩ = some (.int .i64 k) ∧ U.cell? ⟨w.heap.size, 1, none⟩ = some (.int .i64 p) ∧ U.cell? ⟨gq, pre.length * 2, none⟩ = some (.int .i64 zx) ∧ U.cell? ⟨gq, pre.length * 2 + 1, none⟩ = some (.int .i64 zy)) _ := ⟨cn, cq, z0, z1, c0, c1, q0, q1⟩
            gi_wp2
            refine anyHF_one (i := 17) (by kernel_rfl) rfl (by kernel_rfl) (by rfl) ?_
            gi_wp2_with fail
            refine ⟨trivial, (CallsIn.inRound l' (callsIn_wide.2 (same_yes _ _ ml hln _ hrd hr2))).mono ?_⟩
            rintro e X3 ⟨rfl, hB2⟩
            have hX2 := below_in hX hB2
            replace hX := hX2
            clear hX2 hS
            replace cn := nextc cn hB2
            replace cq := nextc cq hB2
            replace z0 := nextc z0 hB2
            replace z1 := nextc z1 hB2
            replace c0 := nextc c0 hB2
            replace c1 := nextc c1 hB2
            replace q0 := nextc q0 hB2
            replace q1 := nextc q1 hB2
            clear hrd hr2
            have hS : (fun U : World => U.cell? ⟨V.heap.size, 0, none⟩ = some (.int .i64 (pre.length : Int)) ∧ U.cell? ⟨w.heap.size + 1 + 1 + 1 + 1 + 1, 0, none⟩ = some (.slice (some ⟨gq, 0, none⟩) zs.length wcap) ∧ U.cell? ⟨Bx, 0, none⟩ = some (.int .i64 zx) ∧ U.cell? ⟨Bx, 1, none⟩ = some (.int .i64 zy) ∧ U.cell? ⟨w.heap.size, 0, none⟩ = some (.int .i64 k) ∧ U.cell? ⟨w.heap.size, 1, none⟩ = some (.int .i64 p) ∧ U.cell? ⟨gq, pre.length * 2, none⟩ = some (.int .i64 zx) ∧ U.cell? ⟨gq, pre.length * 2 + 1, none⟩ = some (.int .i64 zy)) _ := ⟨cn, cq, z0, z1, c0, c1, q0, q1⟩
            gi_wp2
            refine anyHF_take (i := 18) (d := 53) (v := .bool false) (by kernel_rfl) rfl (by kernel_rfl) (by kernel_rfl) (by kernel_rfl) rfl (fun _ _ _ h => h) ⟨Or.inl ⟨by rfl, fun w hS => by obtain ⟨h0, h1, h2, h3, h4, h5, h6, h7⟩ := hS; go_simp⟩, fun _ => rfl⟩ hS ?_
            simp only [List.setIfInBounds_toArray, List.set_cons_zero, List.set_cons_succ]
            refine anyHF_take (i := 19) (d := 54) (v := .bool false) (by kernel_rfl) rfl (by kernel_rfl) (by kernel_rfl) (by kernel_rfl) rfl (fun _ _ _ h => h) ⟨Or.inl ⟨by rfl, fun w hS => by obtain ⟨h0, h1, h2, h3, h4, h5, h6, h7⟩ := hS; go_simp⟩, fun _ => rfl⟩ hS ?_
            simp only [List.setIfInBounds_toArray, List.set_cons_zero, List.set_cons_succ]
            refine anyHF_done (by kernel_rfl) ?_ _
            have hBX := below_in hB hX
            replace hn := hn.below hX hn.lt
            have fn := hn.frozen 0
            replace cty := nextc cty hX
            replace cmx := nextc cmx hX
            have hsX := hX.size
            have hl1 : ((pre ++ [((zx, zy), zv)]).length : Int) = (pre.length : Int) + 1 := by rw [List.length_append]; rfl
            have HL1 := Lib.hid hl1
            have hBS : Hid (Below V.heap.size V (X3.setCell ⟨V.heap.size, 0, none⟩ (.int .i64 ((pre.length : Int) + 1)))) := by exact hBX.setCell (by simp) _
            have HT : Hid (Told V.heap.size V (pre ++ [((zx, zy), zv)]) (X3.setCell ⟨V.heap.size, 0, none⟩ (.int .i64 ((pre.length : Int) + 1)))) := by
              refine ⟨?_, hBS.out⟩
              rw [hl1]
              exact hn.set_ 0 _
            have hSi : Hid (SinceO (V.alloc (.cells #[.int .i64 0] 3)).heap.size none W (X3.setCell ⟨V.heap.size, 0, none⟩ (.int .i64 ((pre.length : Int) + 1)))) := by exact (SinceO.below hX).trans_ (sinceO_set _ (by simp) _ _)
            have hKe : Hid (KeepL W6.heap.size (w7.heap.size - W6.heap.size) W (X3.setCell ⟨V.heap.size, 0, none⟩ (.int .i64 ((pre.length : Int) + 1)))) := by exact ⟨(Keep.below hX (by omega)).trans (Keep.setFar _ (by simp; omega) _), fun _ => F.hL.next hBS.out⟩
            clear hl1 hS
            gi_wp2
            exact ⟨none, .inl rfl, (by simpa using hSi.out), hKe.out, rfl, ⟨HPE.out, trivial⟩, HT.out⟩
          · have HPN := Lib.hid (hpn (fun e => ey (by injection e)))
            clear hpe hpn
            gi_wp2_with fail
            have hS : (fun U : World => U.cell? ⟨V.heap.size, 0, none⟩ = some (.int .i64 (pre.length : Int)) ∧ U.cell? ⟨w.heap.size + 1 + 1 + 1 + 1 + 1, 0, none⟩ = some (.slice (some ⟨gq, 0, none⟩) zs.length wcap) ∧ U.cell? ⟨Bx, 0, none⟩ = some (.int .i64 zx) ∧ U.cell? ⟨Bx, 1, none⟩ = some (.int .i64 zy) ∧ U.cell? ⟨w.heap.size, 0, none⟩ = some (.int .i64 k) ∧ U.cell? ⟨w.heap.size, 1, none⟩ = some (.int .i64 p) ∧ U.cell? ⟨gq, pre.length * 2, none⟩ = some (.int .i64 zx) ∧ U.cell? ⟨gq, pre.length * 2 + 1, none⟩ = some (.int .i64 qy)) W.drew := ⟨cn, cq, z0, z1, c0, c1, q0, q1⟩
            refine region_HF (S := (fun U : World => U.cell? ⟨V.heap.size, 0, none⟩ = some (.int .i64 (pre.length : Int)) ∧ U.cell? ⟨w.heap.size + 1 + 1 + 1 + 1 + 1, 0, none⟩ = some (.slice (some ⟨gq, 0, none⟩) zs.length wcap) ∧ U.cell? ⟨Bx, 0, none⟩ = some (.int .i64 zx) ∧ U.cell? ⟨Bx, 1, none⟩ = some (.int .i64 zy) ∧ U.cell? ⟨w.heap.size, 0, none⟩ = some (.int .i64 k) ∧ U.cell? ⟨w.heap.size, 1, none⟩ = some (.int .i64 p) ∧ U.cell? ⟨gq, pre.length * 2, none⟩ = some (.int .i64 zx) ∧ U.cell? ⟨gq, pre.length * 2 + 1, none⟩ = some (.int .i64 qy))) (by kernel_rfl) ?_
            refine anyHF_take (i := 0) (d := 35) (v := .int .i64 (pre.length : Int)) (by kernel_rfl) rfl (by kernel_rfl) (by kernel_rfl) (by kernel_rfl) rfl (fun _ _ _ h => h) ⟨Or.inl ⟨by rfl, fun w hS => by obtain ⟨h0, h1, h2, h3, h4, h5, h6, h7⟩ := hS; go_simp⟩, fun _ => rfl⟩ hS ?_
            simp only [List.setIfInBounds_toArray, List.set_cons_zero, List.set_cons_succ]
            refine anyHF_take (i := 1) (d := 36) (v := .slice (some ⟨gq, 0, none⟩) zs.length wcap) (by kernel_rfl) rfl (by kernel_rfl) (by kernel_rfl) (by kernel_rfl) rfl (fun _ _ _ h => h) ⟨Or.inl ⟨by rfl, fun w hS => by obtain ⟨h0, h1, h2, h3, h4, h5, h6, h7⟩ := hS; go_simp⟩, fun _ => rfl⟩ hS ?_
            simp only [List.setIfInBounds_toArray, List.set_cons_zero, List.set_cons_succ]
            refine anyHF_one (i := 2) (by kernel_rfl) rfl (by kernel_rfl) (by rfl) ?_
            gi_wp2
            refine anyHF_take (i := 3) (d := 38) (v := .bool false) (by kernel_rfl) rfl (by kernel_rfl) (by kernel_rfl) (by kernel_rfl) rfl (fun _ _ _ h => h) ⟨Or.inl ⟨by rfl, fun w hS => by obtain ⟨h0, h1, h2, h3, h4, h5, h6, h7⟩ := hS; go_simp⟩, fun _ => rfl⟩ hS ?_
            simp only [List.setIfInBounds_toArray, List.set_cons_zero, List.set_cons_succ]
            refine anyHF_take (i := 4) (d := 39) (v := .bool false) (by kernel_rfl) rfl (by kernel_rfl) (by kernel_rfl) (by kernel_rfl) rfl (fun _ _ _ h => h) ⟨Or.inl ⟨by rfl, fun w hS => by obtain ⟨h0, h1, h2, h3, h4, h5, h6, h7⟩ := hS; go_simp⟩, fun _ => rfl⟩ hS ?_
            simp only [List.setIfInBounds_toArray, List.set_cons_zero, List.set_cons_succ]
            refine anyHF_take (i := 5) (d := 40) (v := .agg #[.int .i64 zx, .int .i64 zy]) (by kernel_rfl) rfl (by kernel_rfl) (by kernel_rfl) (by kernel_rfl) rfl (fun _ _ _ h => h) ⟨Or.inl ⟨by rfl, fun w hS => by obtain ⟨h0, h1, h2, h3, h4, h5, h6, h7⟩ := hS; go_simp⟩, fun _ => rfl⟩ hS ?_
            simp only [List.setIfInBounds_toArray, List.set_cons_zero, List.set_cons_succ]
            refine anyHF_take (i := 6) (d := 41) (v := .slice (some ⟨gq, 0, none⟩) zs.length wcap) (by kernel_rfl) rfl (by kernel_rfl) (by kernel_rfl) (by kernel_rfl) rfl (fun _ _ _ h => h) ⟨Or.inl ⟨by rfl, fun w hS => by obtain ⟨h0, h1, h2, h3, h4, h5, h6, h7⟩ := hS; go_simp⟩, fun _ => rfl⟩ hS ?_
            simp only [List.setIfInBounds_toArray, List.set_cons_zero, List.set_cons_succ]
            refine anyHF_take (i := 7) (d := 42) (v := .int .i64 (pre.length : Int)) (by kernel_rfl) rfl (by kernel_rfl) (by kernel_rfl) (by kernel_rfl) rfl (fun _ _ _ h => h) ⟨Or.inl ⟨by rfl, fun w hS => by obtain ⟨h0, h1, h2, h3, h4, h5, h6, h7⟩ := hS; go_simp⟩, fun _ => rfl⟩ hS ?_
            simp only [List.setIfInBounds_toArray, List.set_cons_zero, List.set_cons_succ]
            refine anyHF_take (i := 8) (d := 43) (v := .pointer (some ⟨gq, pre.length * 2, none⟩)) (by kernel_rfl) rfl (by kernel_rfl) (by kernel_rfl) (by kernel_rfl) rfl (fun _ _ _ h => h) ⟨Or.inl ⟨by rfl, fun w hS => by obtain ⟨h0, h1, h2, h3, h4, h5, h6, h7⟩ := hS; go_simp⟩, fun _ => rfl⟩ hS ?_
            simp only [List.setIfInBounds_toArray, List.set_cons_zero, List.set_cons_succ]
            refine anyHF_take (i := 9) (d := 44) (v := .agg #[.int .i64 zx, .int .i64 qy]) (by kernel_rfl) rfl (by kernel_rfl) (by kernel_rfl) (by kernel_rfl) rfl (fun _ _ _ h => h) ⟨Or.inl ⟨by rfl, fun w hS => by obtain ⟨h0, h1, h2, h3, h4, h5, h6, h7⟩ := hS; go_simp⟩, fun _ => rfl⟩ hS ?_
            simp only [List.setIfInBounds_toArray, List.set_cons_zero, List.set_cons_succ]
            refine anyHF_take (i := 10) (d := 45) (v := .bool true) (by kernel_rfl) rfl (by kernel_rfl) (by kernel_rfl) (by kernel_rfl) rfl (fun _ _ _ h => h) ⟨Or.inl ⟨by rfl, fun w hS => by obtain ⟨h0, h1, h2, h3, h4, h5, h6, h7⟩ := hS; go_simp⟩, fun _ => rfl⟩ hS ?_
            simp only [List.setIfInBounds_toArray, List.set_cons_zero, List.set_cons_succ]
            refine anyHF_take (i := 11) (d := 46) (v := .bool true) (by kernel_rfl) rfl (by kernel_rfl) (by kernel_rfl) (by kernel_rfl) rfl (fun _ _ _ h => h) ⟨Or.inl ⟨by rfl, fun w hS => by obtain ⟨h0, h1, h2, h3, h4, h5, h6, h7⟩ := hS; go_simp⟩, fun _ => rfl⟩ hS ?_
            simp only [List.setIfInBounds_toArray, List.set_cons_zero, List.set_cons_succ]
            refine anyHF_take (i := 12) (d := 47) (v := .bool true) (by kernel_rfl) rfl (by kernel_rfl) (by kernel_rfl) (by kernel_rfl) rfl (fun _ _ _ h => h) ⟨Or.inl ⟨by rfl, fun w hS => by obtain ⟨h0, h1, h2, h3, h4, h5, h6, h7⟩ := hS; go_simp⟩, fun _ => rfl⟩ hS ?_
            simp only [List.setIfInBounds_toArray, List.set_cons_zero, List.set_cons_succ]
            refine anyHF_take (i := 13) (d := 48) (v := undef) (by kernel_rfl) rfl (by kernel_rfl) (by kernel_rfl) (by kernel_rfl) rfl (fun _ _ _ h => h) ⟨Or.inr ⟨by rfl, rfl⟩, fun _ => rfl⟩ hS ?_
            simp only [List.setIfInBounds_toArray, List.set_cons_zero, List.set_cons_succ]
            refine anyHF_take (i := 14) (d := 49) (v := undef) (by kernel_rfl) rfl (by kernel_rfl) (by kernel_rfl) (by kernel_rfl) rfl (fun _ _ _ h => h) ⟨Or.inr ⟨by rfl, rfl⟩, fun _ => rfl⟩ hS ?_
            simp only [List.setIfInBounds_toArray, List.set_cons_zero, List.set_cons_succ]
            refine anyHF_take (i := 15) (d := 50) (v := undef) (by kernel_rfl) rfl (by kernel_rfl) (by kernel_rfl) (by kernel_rfl) rfl (fun _ _ _ h => h) ⟨Or.inr ⟨by rfl, rfl⟩, fun _ => rfl⟩ hS ?_
            simp only [List.setIfInBounds_toArray, List.set_cons_zero, List.set_cons_succ]
            refine anyHF_skip (i := 16) (d := 51) (by kernel_rfl) rfl (by rfl) rfl wide_fn hS ?_
            simp only [List.setIfInBounds_toArray, List.set_cons_zero, List.set_cons_succ]
            refine anyHF_skip (i := 17) (d := 52) (by kernel_rfl) rfl (by rfl) rfl wide_fn hS ?_
            simp only [List.setIfInBounds_toArray, List.set_cons_zero, List.set_cons_succ]
            refine anyHF_take (i := 18) (d := 53) (v := undef) (by kernel_rfl) rfl (by kernel_rfl) (by kernel_rfl) (by kernel_rfl) rfl (fun _ _ _ h => h) ⟨Or.inr ⟨by rfl, rfl⟩, fun _ => rfl⟩ hS ?_
            simp only [List.setIfInBounds_toArray, List.set_cons_zero, List.set_cons_succ]
            refine anyHF_take (i := 19) (d := 54) (v := .bool true) (by kernel_rfl) rfl (by kernel_rfl) (by kernel_rfl) (by kernel_rfl) rfl (fun _ _ _ h => h) ⟨Or.inl ⟨by rfl, fun w hS => by obtain ⟨h0, h1, h2, h3, h4, h5, h6, h7⟩ := hS; go_simp⟩, fun _ => rfl⟩ hS ?_
            simp only [List.setIfInBounds_toArray, List.set_cons_zero, List.set_cons_succ]
            refine anyHF_done (by kernel_rfl) ?_ _
            gi_wp2
            exact ⟨none, .inl rfl, sinceO_set _ (by simp; omega) _ _, rfl, .inl ⟨rfl, HPN.out⟩⟩
        · have HPN := Lib.hid (hpn (fun e => ex (by injection e)))
          clear hpe hpn
          gi_wp2_with fail
          have hS : (fun U : World => U.cell? ⟨V.heap.size, 0, none⟩ = some (.int .i64 (pre.length : Int)) ∧ U.cell? ⟨w.heap.size + 1 + 1 + 1 + 1 + 1, 0, none⟩ = some (.slice (some ⟨gq, 0, none⟩) zs.length wcap) ∧ U.cell? ⟨Bx, 0, none⟩ = some (.int .i64 zx) ∧ U.cell? ⟨Bx, 1, none⟩ = some (.int .i64 zy) ∧ U.cell? ⟨w.heap.size, 0, none⟩ = some (.int .i64 k) ∧ U.cell? ⟨w.heap.size, 1, none⟩ = some (.int .i64 p) ∧ U.cell? ⟨gq, pre.length * 2, none⟩ = some (.int .i64 qx) ∧ U.cell? ⟨gq, pre.length * 2 + 1, none⟩ = some (.int .i64 qy)) W.drew := ⟨cn, cq, z0, z1, c0, c1, q0, q1⟩
          refine region_HF (S := (fun U : World => U.cell? ⟨V.heap.size, 0, none⟩ = some (.int .i64 (pre.length : Int)) ∧ U.cell? ⟨w.heap.size + 1 + 1 + 1 + 1 + 1, 0, none⟩ = some (.slice (some ⟨gq, 0, none⟩) zs.length wcap) ∧ U.cell? ⟨Bx, 0, none⟩ = some (.int .i64 zx) ∧ U.cell? ⟨Bx, 1, none⟩ = some (.int .i64 zy) ∧ U.cell? ⟨w.heap.size, 0, none⟩ = some (.int .i64 k) ∧ U.cell? ⟨w.heap.size, 1, none⟩ = some (.int .i64 p) ∧ U.cell? ⟨gq, pre.length * 2, none⟩ = some (.int .i64 qx) ∧ U.cell? ⟨gq, pre.length * 2 + 1, none⟩ = some (.int .i64 qy))) (by kernel_rfl) ?_
          refine anyHF_take (i := 0) (d := 35) (v := .int .i64 (pre.length : Int)) (by kernel_rfl) rfl (by kernel_rfl) (by kernel_rfl) (by kernel_rfl) rfl (fun _ _ _ h => h) ⟨Or.inl ⟨by rfl, fun w hS => by obtain ⟨h0, h1, h2, h3, h4, h5, h6, h7⟩ := hS; go_simp⟩, fun _ => rfl⟩ hS ?_
          simp only [List.setIfInBounds_toArray, List.set_cons_zero, List.set_cons_succ]
          refine anyHF_take (i := 1) (d := 36) (v := .slice (some ⟨gq, 0, none⟩) zs.length wcap) (by kernel_rfl) rfl (by kernel_rfl) (by kernel_rfl) (by kernel_rfl) rfl (fun _ _ _ h => h) ⟨Or.inl ⟨by rfl, fun w hS => by obtain ⟨h0, h1, h2, h3, h4, h5, h6, h7⟩ := hS; go_simp⟩, fun _ => rfl⟩ hS ?_
          simp only [List.setIfInBounds_toArray, List.set_cons_zero, List.set_cons_succ]
          refine anyHF_one (i := 2) (by kernel_rfl) rfl (by kernel_rfl) (by rfl) ?_
          gi_wp2
          refine anyHF_take (i := 3) (d := 38) (v := .bool false) (by kernel_rfl) rfl (by kernel_rfl) (by kernel_rfl) (by kernel_rfl) rfl (fun _ _ _ h => h) ⟨Or.inl ⟨by rfl, fun w hS => by obtain ⟨h0, h1, h2, h3, h4, h5, h6, h7⟩ := hS; go_simp⟩, fun _ => rfl⟩ hS ?_
          simp only [List.setIfInBounds_toArray, List.set_cons_zero, List.set_cons_succ]
          refine anyHF_take (i := 4) (d := 39) (v := .bool false) (by kernel_rfl) rfl (by kernel_rfl) (by kernel_rfl) (by kernel_rfl) rfl (fun _ _ _ h => h) ⟨Or.inl ⟨by rfl, fun w hS => by obtain ⟨h0, h1, h2, h3, h4, h5, h6, h7⟩ := hS; go_simp⟩, fun _ => rfl⟩ hS ?_
          simp only [List.setIfInBounds_toArray, List.set_cons_zero, List.set_cons_succ]
          refine anyHF_take (i := 5) (d := 40) (v := .agg #[.int .i64 zx, .int .i64 zy]) (by kernel_rfl) rfl (by kernel_rfl) (by kernel_rfl) (by kernel_rfl) rfl (fun _ _ _ h => h) ⟨Or.inl ⟨by rfl, fun w hS => by obtain ⟨h0, h1, h2, h3, h4, h5, h6, h7⟩ := hS; go_simp⟩, fun _ => rfl⟩ hS ?_
          simp only [List.setIfInBounds_toArray, List.set_cons_zero, List.set_cons_succ]
          refine anyHF_take (i := 6) (d := 41) (v := .slice (some ⟨gq, 0, none⟩) zs.length wcap) (by kernel_rfl) rfl (by kernel_rfl) (by kernel_rfl) (by kernel_rfl) rfl (fun _ _ _ h => h) ⟨Or.inl ⟨by rfl, fun w hS => by obtain ⟨h0, h1, h2, h3, h4, h5, h6, h7⟩ := hS; go_simp⟩, fun _ => rfl⟩ hS ?_
          simp only [List.setIfInBounds_toArray, List.set_cons_zero, List.set_cons_succ]
          refine anyHF_take (i := 7) (d := 42) (v := .int .i64 (pre.length : Int)) (by kernel_rfl) rfl (by kernel_rfl) (by kernel_rfl) (by kernel_rfl) rfl (fun _ _ _ h => h) ⟨Or.inl ⟨by rfl, fun w hS => by obtain ⟨h0, h1, h2, h3, h4, h5, h6, h7⟩ := hS; go_simp⟩, fun _ => rfl⟩ hS ?_
          simp only [List.setIfInBounds_toArray, List.set_cons_zero, List.set_cons_succ]
          refine anyHF_take (i := 8) (d := 43) (v := .pointer (some ⟨gq, pre.length * 2, none⟩)) (by kernel_rfl) rfl (by kernel_rfl) (by kernel_rfl) (by kernel_rfl) rfl (fun _ _ _ h => h) ⟨Or.inl ⟨by rfl, fun w hS => by obtain ⟨h0, h1, h2, h3, h4, h5, h6, h7⟩ := hS; go_simp⟩, fun _ => rfl⟩ hS ?_
          simp only [List.setIfInBounds_toArray, List.set_cons_zero, List.set_cons_succ]
          refine anyHF_take (i := 9) (d := 44) (v := .agg #[.int .i64 qx, .int .i64 qy]) (by kernel_rfl) rfl (by kernel_rfl) (by kernel_rfl) (by kernel_rfl) rfl (fun _ _ _ h => h) ⟨Or.inl ⟨by rfl, fun w hS => by obtain ⟨h0, h1, h2, h3, h4, h5, h6, h7⟩ := hS; go_simp⟩, fun _ => rfl⟩ hS ?_
          simp only [List.setIfInBounds_toArray, List.set_cons_zero, List.set_cons_succ]
          refine anyHF_take (i := 10) (d := 45) (v := .bool true) (by kernel_rfl) rfl (by kernel_rfl) (by kernel_rfl) (by kernel_rfl) rfl (fun _ _ _ h => h) ⟨Or.inl ⟨by rfl, fun w hS => by obtain ⟨h0, h1, h2, h3, h4, h5, h6, h7⟩ := hS; go_simp⟩, fun _ => rfl⟩ hS ?_
          simp only [List.setIfInBounds_toArray, List.set_cons_zero, List.set_cons_succ]
          refine anyHF_take (i := 11) (d := 46) (v := .bool true) (by kernel_rfl) rfl (by kernel_rfl) (by kernel_rfl) (by kernel_rfl) rfl (fun _ _ _ h => h) ⟨Or.inl ⟨by rfl, fun w hS => by obtain ⟨h0, h1, h2, h3, h4, h5, h6, h7⟩ := hS; go_simp⟩, fun _ => rfl⟩ hS ?_
          simp only [List.setIfInBounds_toArray, List.set_cons_zero, List.set_cons_succ]
          refine anyHF_take (i := 12) (d := 47) (v := .bool true) (by kernel_rfl) rfl (by kernel_rfl) (by kernel_rfl) (by kernel_rfl) rfl (fun _ _ _ h => h) ⟨Or.inl ⟨by rfl, fun w hS => by obtain ⟨h0, h1, h2, h3, h4, h5, h6, h7⟩ := hS; go_simp⟩, fun _ => rfl⟩ hS ?_
          simp only [List.setIfInBounds_toArray, List.set_cons_zero, List.set_cons_succ]
          refine anyHF_take (i := 13) (d := 48) (v := undef) (by kernel_rfl) rfl (by kernel_rfl) (by kernel_rfl) (by kernel_rfl) rfl (fun _ _ _ h => h) ⟨Or.inr ⟨by rfl, rfl⟩, fun _ => rfl⟩ hS ?_
          simp only [List.setIfInBounds_toArray, List.set_cons_zero, List.set_cons_succ]
          refine anyHF_take (i := 14) (d := 49) (v := undef) (by kernel_rfl) rfl (by kernel_rfl) (by kernel_rfl) (by kernel_rfl) rfl (fun _ _ _ h => h) ⟨Or.inr ⟨by rfl, rfl⟩, fun _ => rfl⟩ hS ?_
          simp only [List.setIfInBounds_toArray, List.set_cons_zero, List.set_cons_succ]
          refine anyHF_take (i := 15) (d := 50) (v := undef) (by kernel_rfl) rfl (by kernel_rfl) (by kernel_rfl) (by kernel_rfl) rfl (fun _ _ _ h => h) ⟨Or.inr ⟨by rfl, rfl⟩, fun _ => rfl⟩ hS ?_
          simp only [List.setIfInBounds_toArray, List.set_cons_zero, List.set_cons_succ]
          refine anyHF_skip (i := 16) (d := 51) (by kernel_rfl) rfl (by rfl) rfl wide_fn hS ?_
          simp only [List.setIfInBounds_toArray, List.set_cons_zero, List.set_cons_succ]
          refine anyHF_skip (i := 17) (d := 52) (by kernel_rfl) rfl (by rfl) rfl wide_fn hS ?_
          simp only [List.setIfInBounds_toArray, List.set_cons_zero, List.set_cons_succ]
          refine anyHF_take (i := 18) (d := 53) (v := undef) (by kernel_rfl) rfl (by kernel_rfl) (by kernel_rfl) (by kernel_rfl) rfl (fun _ _ _ h => h) ⟨Or.inr ⟨by rfl, rfl⟩, fun _ => rfl⟩ hS ?_
          simp only [List.setIfInBounds_toArray, List.set_cons_zero, List.set_cons_succ]
          refine anyHF_take (i := 19) (d := 54) (v := .bool true) (by kernel_rfl) rfl (by kernel_rfl) (by kernel_rfl) (by kernel_rfl) rfl (fun _ _ _ h => h) ⟨Or.inl ⟨by rfl, fun w hS => by obtain ⟨h0, h1, h2, h3, h4, h5, h6, h7⟩ := hS; go_simp⟩, fun _ => rfl⟩ hS ?_
          simp only [List.setIfInBounds_toArray, List.set_cons_zero, List.set_cons_succ]
          refine anyHF_done (by kernel_rfl) ?_ _
          gi_wp2
          exact ⟨none, .inl rfl, sinceO_set _ (by simp; omega) _ _, rfl, .inl ⟨rfl, HPN.out⟩⟩
      · have dp : decide ((zs.length : Int) ≤ (pre.length : Int)) = true := decide_eq_true (by omega)
        have HN := Lib.hid (prefix_not (zs := zs) (pre := pre) (x := ((zx, zy), zv)) (fun h => by omega))
        gi_wp2_with fail
        have hS : (fun U : World => U.cell? ⟨V.heap.size, 0, none⟩ = some (.int .i64 (pre.length : Int)) ∧ U.cell? ⟨w.heap.size + 1 + 1 + 1 + 1 + 1, 0, none⟩ = some (.slice wq zs.length wcap) ∧ U.cell? ⟨Bx, 0, none⟩ = some (.int .i64 zx) ∧ U.cell? ⟨Bx, 1, none⟩ = some (.int .i64 zy) ∧ U.cell? ⟨w.heap.size, 0, none⟩ = some (.int .i64 k) ∧ U.cell? ⟨w.heap.size, 1, none⟩ = some (.int .i64 p)) W.drew := ⟨cn, cq, z0, z1, c0, c1⟩
        refine region_HF (S := (fun U : World => U.cell? ⟨V.heap.size, 0, none⟩ = some (.int .i64 (pre.length : Int)) ∧ U.cell? ⟨w.heap.size + 1 + 1 + 1 + 1 + 1, 0, none⟩ = some (.slice wq zs.length wcap) ∧ U.cell? ⟨Bx, 0, none⟩ = some (.int .i64 zx) ∧ U.cell? ⟨Bx, 1, none⟩ = some (.int .i64 zy) ∧ U.cell? ⟨w.heap.size, 0, none⟩ = some (.int .i64 k) ∧ U.cell? ⟨w.heap.size, 1, none⟩ = some (.int .i64 p))) (by kernel_rfl) ?_
        refine anyHF_take (i := 0) (d := 35) (v := .int .i64 (pre.length : Int)) (by kernel_rfl) rfl (by kernel_rfl) (by kernel_rfl) (by kernel_rfl) rfl (fun _ _ _ h => h) ⟨Or.inl ⟨by rfl, fun w hS => by obtain ⟨h0, h1, h2, h3, h4, h5⟩ := hS; go_simp⟩, fun _ => rfl⟩ hS ?_
        simp only [List.setIfInBounds_toArray, List.set_cons_zero, List.set_cons_succ]
        refine anyHF_take (i := 1) (d := 36) (v := .slice wq zs.length wcap) (by kernel_rfl) rfl (by kernel_rfl) (by kernel_rfl) (by kernel_rfl) rfl (fun _ _ _ h => h) ⟨Or.inl ⟨by rfl, fun w hS => by obtain ⟨h0, h1, h2, h3, h4, h5⟩ := hS; go_simp⟩, fun _ => rfl⟩ hS ?_
        simp only [List.setIfInBounds_toArray, List.set_cons_zero, List.set_cons_succ]
        refine anyHF_one (i := 2) (by kernel_rfl) rfl (by kernel_rfl) (by rfl) ?_
        gi_wp2
        refine anyHF_take (i := 3) (d := 38) (v := .bool true) (by kernel_rfl) rfl (by kernel_rfl) (by kernel_rfl) (by kernel_rfl) rfl (fun _ _ _ h => h) ⟨Or.inl ⟨by rfl, fun w hS => by obtain ⟨h0, h1, h2, h3, h4, h5⟩ := hS; go_simp⟩, fun _ => rfl⟩ hS ?_
        simp only [List.setIfInBounds_toArray, List.set_cons_zero, List.set_cons_succ]
        refine anyHF_take (i := 4) (d := 39) (v := .bool true) (by kernel_rfl) rfl (by kernel_rfl) (by kernel_rfl) (by kernel_rfl) rfl (fun _ _ _ h => h) ⟨Or.inl ⟨by rfl, fun w hS => by obtain ⟨h0, h1, h2, h3, h4, h5⟩ := hS; go_simp⟩, fun _ => rfl⟩ hS ?_
        simp only [List.setIfInBounds_toArray, List.set_cons_zero, List.set_cons_succ]
        refine anyHF_take (i := 5) (d := 40) (v := undef) (by kernel_rfl) rfl (by kernel_rfl) (by kernel_rfl) (by kernel_rfl) rfl (fun _ _ _ h => h) ⟨Or.inr ⟨by rfl, rfl⟩, fun _ => rfl⟩ hS ?_
        simp only [List.setIfInBounds_toArray, List.set_cons_zero, List.set_cons_succ]
        refine anyHF_take (i := 6) (d := 41) (v := undef) (by kernel_rfl) rfl (by kernel_rfl) (by kernel_rfl) (by kernel_rfl) rfl (fun _ _ _ h => h) ⟨Or.inr ⟨by rfl, rfl⟩, fun _ => rfl⟩ hS ?_
        simp only [List.setIfInBounds_toArray, List.set_cons_zero, List.set_cons_succ]
        refine anyHF_take (i := 7) (d := 42) (v := undef) (by kernel_rfl) rfl (by kernel_rfl) (by kernel_rfl) (by kernel_rfl) rfl (fun _ _ _ h => h) ⟨Or.inr ⟨by rfl, rfl⟩, fun _ => rfl⟩ hS ?_
        simp only [List.setIfInBounds_toArray, List.set_cons_zero, List.set_cons_succ]
        refine anyHF_take (i := 8) (d := 43) (v := undef) (by kernel_rfl) rfl (by kernel_rfl) (by kernel_rfl) (by kernel_rfl) rfl (fun _ _ _ h => h) ⟨Or.inr ⟨by rfl, rfl⟩, fun _ => rfl⟩ hS ?_
        simp only [List.setIfInBounds_toArray, List.set_cons_zero, List.set_cons_succ]
        refine anyHF_take (i := 9) (d := 44) (v := undef) (by kernel_rfl) rfl (by kernel_rfl) (by kernel_rfl) (by kernel_rfl) rfl (fun _ _ _ h => h) ⟨Or.inr ⟨by rfl, rfl⟩, fun _ => rfl⟩ hS ?_
        simp only [List.setIfInBounds_toArray, List.set_cons_zero, List.set_cons_succ]
        refine anyHF_take (i := 10) (d := 45) (v := undef) (by kernel_rfl) rfl (by kernel_rfl) (by kernel_rfl) (by kernel_rfl) rfl (fun _ _ _ h => h) ⟨Or.inr ⟨by rfl, rfl⟩, fun _ => rfl⟩ hS ?_
        simp only [List.setIfInBounds_toArray, List.set_cons_zero, List.set_cons_succ]
        refine anyHF_take (i := 11) (d := 46) (v := .bool true) (by kernel_rfl) rfl (by kernel_rfl) (by kernel_rfl) (by kernel_rfl) rfl (fun _ _ _ h => h) ⟨Or.inl ⟨by rfl, fun w hS => by obtain ⟨h0, h1, h2, h3, h4, h5⟩ := hS; go_simp⟩, fun _ => rfl⟩ hS ?_
        simp only [List.setIfInBounds_toArray, List.set_cons_zero, List.set_cons_succ]
        refine anyHF_take (i := 12) (d := 47) (v := .bool true) (by kernel_rfl) rfl (by kernel_rfl) (by kernel_rfl) (by kernel_rfl) rfl (fun _ _ _ h => h) ⟨Or.inl ⟨by rfl, fun w hS => by obtain ⟨h0, h1, h2, h3, h4, h5⟩ := hS; go_simp⟩, fun _ => rfl⟩ hS ?_
        simp only [List.setIfInBounds_toArray, List.set_cons_zero, List.set_cons_succ]
        refine anyHF_take (i := 13) (d := 48) (v := undef) (by kernel_rfl) rfl (by kernel_rfl) (by kernel_rfl) (by kernel_rfl) rfl (fun _ _ _ h => h) ⟨Or.inr ⟨by rfl, rfl⟩, fun _ => rfl⟩ hS ?_
        simp only [List.setIfInBounds_toArray, List.set_cons_zero, List.set_cons_succ]
        refine anyHF_take (i := 14) (d := 49) (v := undef) (by kernel_rfl) rfl (by kernel_rfl) (by kernel_rfl) (by kernel_rfl) rfl (fun _ _ _ h => h) ⟨Or.inr ⟨by rfl, rfl⟩, fun _ => rfl⟩ hS ?_
        simp only [List.setIfInBounds_toArray, List.set_cons_zero, List.set_cons_succ]
        refine anyHF_take (i := 15) (d := 50) (v := undef) (by kernel_rfl) rfl (by kernel_rfl) (by kernel_rfl) (by kernel_rfl) rfl (fun _ _ _ h => h) ⟨Or.inr ⟨by rfl, rfl⟩, fun _ => rfl⟩ hS ?_
        simp only [List.setIfInBounds_toArray, List.set_cons_zero, List.set_cons_succ]
        refine anyHF_skip (i := 16) (d := 51) (by kernel_rfl) rfl (by rfl) rfl wide_fn hS ?_
        simp only [List.setIfInBounds_toArray, List.set_cons_zero, List.set_cons_succ]
        refine anyHF_skip (i := 17) (d := 52) (by kernel_rfl) rfl (by rfl) rfl wide_fn hS ?_
        simp only [List.setIfInBounds_toArray, List.set_cons_zero, List.set_cons_succ]
        refine anyHF_take (i := 18) (d := 53) (v := undef) (by kernel_rfl) rfl (by kernel_rfl) (by kernel_rfl) (by kernel_rfl) rfl (fun _ _ _ h => h) ⟨Or.inr ⟨by rfl, rfl⟩, fun _ => rfl⟩ hS ?_
        simp only [List.setIfInBounds_toArray, List.set_cons_zero, List.set_cons_succ]
        refine anyHF_take (i := 19) (d := 54) (v := .bool true) (by kernel_rfl) rfl (by kernel_rfl) (by kernel_rfl) (by kernel_rfl) rfl (fun _ _ _ h => h) ⟨Or.inl ⟨by rfl, fun w hS => by obtain ⟨h0, h1, h2, h3, h4, h5⟩ := hS; go_simp⟩, fun _ => rfl⟩ hS ?_
        simp only [List.setIfInBounds_toArray, List.set_cons_zero, List.set_cons_succ]
        refine anyHF_done (by kernel_rfl) ?_ _
        gi_wp2
        exact ⟨none, .inl rfl, sinceO_set _ (by simp; omega) _ _, rfl, .inl ⟨rfl, HN.out⟩⟩
    case done_1 =>
      rintro D ys o W hD _ hys ⟨rfl, ⟨hpre, hcnd⟩, hn, hB⟩ hKD _
      have hlen : (ys.length : Int) = (zs.length : Int) := by rw [← hys, List.length_map]
      rw [hlen] at hn
      have hne : ((zs.length : Int) != (zs.length : Int)) = false := by simp
      have cn := hn.one
      have cq := (F.q.below hB F.q.lt).one
      have cty := (ct.below hB ct.lt).one
      have cmx := (F.m.below hB F.m.lt).one
      have lt0 := hB.size
      gi_wp2
      all_goals
        obtain ⟨V1, hV1⟩ : ∃ V1, W.alloc (.cells #[.int .i64 2] 3) = V1 := ⟨_, rfl⟩
        rw [hV1]
        have hB1 : Below V.heap.size V V1 := by rw [← hV1]; exact hB.alloc hB.size _
        have ct1 : Blk V1 W.heap.size 3 #[.int .i64 (2 : Nat)] := by rw [← hV1]; exact Blk.new _ _ _
        have hlD := (Array.getElem?_eq_some_iff.1 hKD).1
        have hD1 : V1.heap[D]? = some (.deferred (some [])) := by rw [← hV1]; exact (Below.heap_alloc W _ D hlD).trans hKD
        have hL1 := hLeft.more hB1 (by have := hW.size; simp at hD; omega) (by simp at hD; omega) hD1
        have hz := fun (z11 z12 z26 z27 z28 z29 z30 z31 z32 z64 z65 z66 z67 z68 z69 z70 z71 z72 z73 z74 z75 z76 z77 z78 z79 z80 z81 z82 z83 z84 z85 : Value) hr => hK 0 [z11, z12, z26, z27, z28, z29, z30, z31, z32, z64, z65, z66, z67, z68, z69, z70, z71, z72, z73, z74, z75, z76, z77, z78, z79, z80, z81, z82, z83, z84, z85] (D :: Ds) V1 (by omega) hr
        simp only [sets, List.setIfInBounds_toArray, List.set_cons_zero, List.set_cons_succ] at hz
        refine hz _ _ _ _ _ _ _ _ _ _ _ _ _ _ _ _ _ _ _ _ _ _ _ _ _ _ _ _ _ _ _ ⟨2, W.heap.size, _, _, _, _, _, _, _, _, _, _, _, _, _, _, _, _, _, _, _, _, _, _, _, _, _, _, _, _, _, _, rfl, by omega, by omega, ct1, F.next hB1, hL1, below_in hBV hB1⟩
    case stop_1 =>
      rintro D c pre o W hD _ hsp ⟨rfl, hor⟩ hKD _
      rcases hor with ⟨rfl, h⟩ | ⟨h, _⟩
      · exact absurd hsp h
      · exact h.elim
  · gi_wp2_with fail
    have g0 := F.a.cell 0
    have g1 := F.a.cell 1
    have g2 := F.b.cell 0
    have g3 := F.b.cell 1
    simp only [List.getElem?_toArray, List.getElem?_cons_zero, List.getElem?_cons_succ] at g0 g1 g2 g3
    clear hK HRM HMl hg eg eq
    by_cases h1 : a1 < b1
    · have e1 : decide (a1 < b1) = true := decide_eq_true h1
      have hq : aheadB (a1, a2) (b1, b2) = true := by unfold aheadB; simp; omega
      clear h1
      have HQ := Lib.hid (fun W => (setsBefore_any a1 a2 b1 b2 W).mono fun e w' h => (by rw [hq] at h; exact h : e = .returned (.bool true) ∧ Below W.heap.size W w'))
      clear hq
      go_wp2_with (first | (go_at_call 20; refine (HQ.out _).mono ?_; rintro e wb ⟨rfl, hBb⟩; have F2 := F.next hBb; have hBw := hBb) | (go_at_call 11; refine (works_any _ F2.hL).mono ?_; rintro e wf ⟨rfl, hBf⟩; have hBa := below_in hBw hBf; have crx := (F2.r.below hBf F2.r.lt).one; have frx := (F2.r.below hBf F2.r.lt).frozen 0))
      have h3 : Blk (wf.setCell ⟨w.heap.size + 1 + 1 + 1 + 1, 0, none⟩ (.bool true)) (w.heap.size + 1 + 1 + 1 + 1) 4 #[.bool true] := (F2.r.below hBf F2.r.lt).set_ 0 _
      refine leaves_blks w Ds _ ((hLeft.below hBa).set_ _ _) ((below_in hW hBa).setCell (by simp; omega) _) fun W' hB' hk => ?_
      have cr := (hk _ _ _ h3).one
      exact ⟨.bool true, by simp [results, Tryz.results5, go_sem, cr], rfl, hB'⟩
    · have e1 : decide (a1 < b1) = false := decide_eq_false h1
      by_cases h2 : a1 = b1
      · have e2 : (a1 == b1) = true := by simpa using h2
        by_cases h3 : a2 < b2
        · have e3 : decide (a2 < b2) = true := decide_eq_true h3
          have hq : aheadB (a1, a2) (b1, b2) = true := by unfold aheadB; simp; omega
          clear h1 h2 h3
          have HQ := Lib.hid (fun W => (setsBefore_any a1 a2 b1 b2 W).mono fun e w' h => (by rw [hq] at h; exact h : e = .returned (.bool true) ∧ Below W.heap.size W w'))
          clear hq
          go_wp2_with (first | (go_at_call 20; refine (HQ.out _).mono ?_; rintro e wb ⟨rfl, hBb⟩; have F2 := F.next hBb; have hBw := hBb) | (go_at_call 11; refine (works_any _ F2.hL).mono ?_; rintro e wf ⟨rfl, hBf⟩; have hBa := below_in hBw hBf; have crx := (F2.r.below hBf F2.r.lt).one; have frx := (F2.r.below hBf F2.r.lt).frozen 0))
          have h3 : Blk (wf.setCell ⟨w.heap.size + 1 + 1 + 1 + 1, 0, none⟩ (.bool true)) (w.heap.size + 1 + 1 + 1 + 1) 4 #[.bool true] := (F2.r.below hBf F2.r.lt).set_ 0 _
          refine leaves_blks w Ds _ ((hLeft.below hBa).set_ _ _) ((below_in hW hBa).setCell (by simp; omega) _) fun W' hB' hk => ?_
          have cr := (hk _ _ _ h3).one
          exact ⟨.bool true, by simp [results, Tryz.results5, go_sem, cr], rfl, hB'⟩
        · have e3 : decide (a2 < b2) = false := decide_eq_false h3
          have hq : aheadB (a1, a2) (b1, b2) = false := by unfold aheadB; simp; omega
          clear h1 h2 h3
          have HQ := Lib.hid (fun W => (setsBefore_any a1 a2 b1 b2 W).mono fun e w' h => (by rw [hq] at h; exact h : e = .returned (.bool false) ∧ Below W.heap.size W w'))
          clear hq
          go_wp2_with (first | (go_at_call 20; refine (HQ.out _).mono ?_; rintro e wb ⟨rfl, hBb⟩; have F2 := F.next hBb; have hBw := hBb) | (go_at_call 11; refine (works_any _ F2.hL).mono ?_; rintro e wf ⟨rfl, hBf⟩; have hBa := below_in hBw hBf; have crx := (F2.r.below hBf F2.r.lt).one; have frx := (F2.r.below hBf F2.r.lt).frozen 0))
          have h3 : Blk (wf.setCell ⟨w.heap.size + 1 + 1 + 1 + 1, 0, none⟩ (.bool true)) (w.heap.size + 1 + 1 + 1 + 1) 4 #[.bool true] := (F2.r.below hBf F2.r.lt).set_ 0 _
          refine leaves_blks w Ds _ ((hLeft.below hBa).set_ _ _) ((below_in hW hBa).setCell (by simp; omega) _) fun W' hB' hk => ?_
          have cr := (hk _ _ _ h3).one
          exact ⟨.bool true, by simp [results, Tryz.results5, go_sem, cr], rfl, hB'⟩
      · have e2 : (a1 == b1) = false := by simpa using h2
        have hq : aheadB (a1, a2) (b1, b2) = false := by unfold aheadB; simp; omega
        clear h1 h2
        have HQ := Lib.hid (fun W => (setsBefore_any a1 a2 b1 b2 W).mono fun e w' h => (by rw [hq] at h; exact h : e = .returned (.bool false) ∧ Below W.heap.size W w'))
        clear hq
        go_wp2_with (first | (go_at_call 20; refine (HQ.out _).mono ?_; rintro e wb ⟨rfl, hBb⟩; have F2 := F.next hBb; have hBw := hBb) | (go_at_call 11; refine (works_any _ F2.hL).mono ?_; rintro e wf ⟨rfl, hBf⟩; have hBa := below_in hBw hBf; have crx := (F2.r.below hBf F2.r.lt).one; have frx := (F2.r.below hBf F2.r.lt).frozen 0))
        have h3 : Blk (wf.setCell ⟨w.heap.size + 1 + 1 + 1 + 1, 0, none⟩ (.bool true)) (w.heap.size + 1 + 1 + 1 + 1) 4 #[.bool true] := (F2.r.below hBf F2.r.lt).set_ 0 _
        refine leaves_blks w Ds _ ((hLeft.below hBa).set_ _ _) ((below_in hW hBa).setCell (by simp; omega) _) fun W' hB' hk => ?_
        have cr := (hk _ _ _ h3).one
        exact ⟨.bool true, by simp [results, Tryz.results5, go_sem, cr], rfl, hB'⟩
set_option maxRecDepth 100000 in
set_option maxHeartbeats 4000000 in
theorem main_big (k p a1 a2 b1 b2 many : Int) (w : World) (hL : Laid w) (hp : ¬ p ≤ 11) :
    Calls Tryz.prog 5 #[.agg #[.int .i64 k, .int .i64 p], .agg #[.int .i64 a1, .int .i64 a2], .agg #[.int .i64 b1, .int .i64 b2], .int .i64 many] w fun e w' => e = .returned (.bool true) ∧ Below w.heap.size w w' := by
  have hpd : decide (11 < p) = true := decide_eq_true (by omega)
  obtain ⟨W6, hW6⟩ : ∃ W6, ((((w.alloc (.cells #[.int .i64 k, .int .i64 p] 24)).alloc (.cells #[.int .i64 a1, .int .i64 a2] 26)).alloc (.cells #[.int .i64 b1, .int .i64 b2] 26)).alloc (.cells #[.int .i64 many] 3)).alloc (.cells #[.bool false] 4) = W6 := ⟨_, rfl⟩
  have k0 : Blk W6 (w.heap.size) 24 #[.int .i64 k, .int .i64 p] := by
    rw [← hW6]
    have := Blk.new w 24 #[.int .i64 k, .int .i64 p]
    exact ((((this.alloc (.cells #[.int .i64 a1, .int .i64 a2] 26)).alloc (.cells #[.int .i64 b1, .int .i64 b2] 26)).alloc (.cells #[.int .i64 many] 3)).alloc (.cells #[.bool false] 4))
  have k1 : Blk W6 (w.heap.size + 1) 26 #[.int .i64 a1, .int .i64 a2] := by
    rw [← hW6]
    have := Blk.new (w.alloc (.cells #[.int .i64 k, .int .i64 p] 24)) 26 #[.int .i64 a1, .int .i64 a2]
    rw [World.size_alloc] at this
    exact (((this.alloc (.cells #[.int .i64 b1, .int .i64 b2] 26)).alloc (.cells #[.int .i64 many] 3)).alloc (.cells #[.bool false] 4))
  have k2 : Blk W6 (w.heap.size + 1 + 1) 26 #[.int .i64 b1, .int .i64 b2] := by
    rw [← hW6]
    have := Blk.new ((w.alloc (.cells #[.int .i64 k, .int .i64 p] 24)).alloc (.cells #[.int .i64 a1, .int .i64 a2] 26)) 26 #[.int .i64 b1, .int .i64 b2]
    rw [World.size_alloc, World.size_alloc] at this
    exact ((this.alloc (.cells #[.int .i64 many] 3)).alloc (.cells #[.bool false] 4))
  have k3 : Blk W6 (w.heap.size + 1 + 1 + 1) 3 #[.int .i64 many] := by
    rw [← hW6]
    have := Blk.new (((w.alloc (.cells #[.int .i64 k, .int .i64 p] 24)).alloc (.cells #[.int .i64 a1, .int .i64 a2] 26)).alloc (.cells #[.int .i64 b1, .int .i64 b2] 26)) 3 #[.int .i64 many]
    rw [World.size_alloc, World.size_alloc, World.size_alloc] at this
    exact (this.alloc (.cells #[.bool false] 4))
  have k4 : Blk W6 (w.heap.size + 1 + 1 + 1 + 1) 4 #[.bool false] := by
    rw [← hW6]
    have := Blk.new ((((w.alloc (.cells #[.int .i64 k, .int .i64 p] 24)).alloc (.cells #[.int .i64 a1, .int .i64 a2] 26)).alloc (.cells #[.int .i64 b1, .int .i64 b2] 26)).alloc (.cells #[.int .i64 many] 3)) 4 #[.bool false]
    rw [World.size_alloc, World.size_alloc, World.size_alloc, World.size_alloc] at this
    exact this
  have hB : Below w.heap.size w W6 := by rw [← hW6]; exact (((below_two w _ _).alloc (by simp; omega) _).alloc (by simp; omega) _).alloc (by simp; omega) _
  replace hL := hL.next hB
  have c0 := k0.cell 0
  have c1 := k0.cell 1
  simp only [List.getElem?_toArray, List.getElem?_cons_zero, List.getElem?_cons_succ] at c0 c1
  refine (callsIn_wide (n := 20)).1 ?_
  refine callsIn_of_wp_marks Tryz.func5 rfl trivial ?_ rfl
  simp only [Tryz.ntmps5, List.size_toArray, List.length_cons, List.length_nil, Nat.reduceAdd, Nat.reduceSub, Array.replicate_succ, Array.replicate_zero, List.push_toArray, List.append_toArray, List.nil_append, List.cons_append]
  refine wpIn_wide.2 ?_
  go_wp2_with fail
  try rw [hW6]
  clear hW6
  refine (works_any _ hL).mono ?_
  rintro e wf ⟨rfl, hBf⟩
  have crx := (k4.below hBf k4.lt).one
  have frx := (k4.below hBf k4.lt).frozen 0
  have h3 : Blk (wf.setCell ⟨w.heap.size + 1 + 1 + 1 + 1, 0, none⟩ (.bool true)) (w.heap.size + 1 + 1 + 1 + 1) 4 #[.bool true] := (k4.below hBf k4.lt).set_ 0 _
  have hBz := below_in hB hBf
  go_wp2
  refine leaves_blks w [] _ (Left.nil _ _) (hBz.setCell (by simp; omega) _) fun W' hB' hk => ?_
  have cr := (hk _ _ _ h3).one
  exact ⟨.bool true, by simp [results, Tryz.results5, go_sem, cr], rfl, hB'⟩
theorem walk (k p a1 a2 b1 b2 many : Int) (w : World) (hL : Laid w) (wk : -9223372036854775808 ≤ k ∧ k ≤ 9223372036854775807) (wp : -9223372036854775808 ≤ p ∧ p ≤ 9223372036854775807) (wa1 : -9223372036854775808 ≤ a1 ∧ a1 ≤ 9223372036854775807) (wa2 : -9223372036854775808 ≤ a2 ∧ a2 ≤ 9223372036854775807) (wb1 : -9223372036854775808 ≤ b1 ∧ b1 ≤ 9223372036854775807) (wb2 : -9223372036854775808 ≤ b2 ∧ b2 ≤ 9223372036854775807) (wm : -9223372036854775808 ≤ many ∧ many ≤ 9223372036854775807) :
    Calls Tryz.prog 5 #[.agg #[.int .i64 k, .int .i64 p], .agg #[.int .i64 a1, .int .i64 a2], .agg #[.int .i64 b1, .int .i64 b2], .int .i64 many] w fun e w' => e = .returned (.bool true) ∧ Below w.heap.size w w' := by
  by_cases hp : p ≤ 11
  · by_cases hR : RightC k p
    · exact main_yes k p a1 a2 b1 b2 many w hL wm hp hR
    · exact main_no k p a1 a2 b1 b2 many w hL wm hp hR
  · exact main_big k p a1 a2 b1 b2 many w hL hp

set_option maxRecDepth 100000 in
theorem lifted (os : Os) (started : os.Started) (H : Type) (enc : TypeId × Value → H) :
    ReturnsInHanded {} Tryz.checked os 5 .any (fun w args => (Rows.setsLinesSpec.pre enc Tryz.prog Tryz.f5 [] false w args ∧ laidMetH Tryz.prog laidL w) ∧ sizedMet enc Tryz.prog Tryz.f5 (OpenSpec.ofChange Rows.setsLinesSpec) false w args)
      (Rows.setsLinesSpec.post enc Tryz.prog Tryz.f5 false true false false) := by
  refine returnsInHanded_of_change_and (C := Tryz.checked) (X := fun w _ => laidMetH Tryz.prog laidL w) (fun _ _ _ hh h => h.of_heap hh) own started (by kernel_rfl) Tryz.func5
    (ChangeSpec.witness_shaped (enc := enc) (C := Tryz.checked) (os := os) (X := fun w _ => laidMetH Tryz.prog laidL w) false (World.doorLaid Tryz.prog 200 os) #[.agg #[.int .i64 0, .int .i64 0], .agg #[.int .i64 0, .int .i64 0], .agg #[.int .i64 0, .int .i64 0], .int .i64 0] 8 rfl (World.shaped_of_RefB (by kernel_rfl) (by kernel_rfl)) (by kernel_rfl) (by kernel_rfl) (by kernel_rfl) (door_met os _)) ?_
  intro W base args ds gs before hval0 hW _ _ hL0 _
  have hL := laid_of hL0
  have hval : ∀ (j : Nat) t v, Tryz.f5.params[j]? = some t → args[j]? = some v → Value.okWide Tryz.prog W .any base t v := hval0
  have hW' := hW
  obtain ⟨p, q, hA0, hV, rfl, hfz, hnd⟩ := hW
  have hA : DataW.TrodAll enc Tryz.prog W 0 (fun _ => true) true Tryz.f5.params.toList args.toList ds p := hA0
  rw [Tryz.params5] at hA hval
  obtain ⟨v0, vs0, d0, ds0, p0, q0, hargs, rfl, rfl, h0, r0⟩ := trodAll_cons hA
  obtain ⟨v1, vs1, d1, ds1, p1, q1, rfl, rfl, rfl, h1, r1⟩ := trodAll_cons r0
  obtain ⟨v2, vs2, d2, ds2, p2, q2, rfl, rfl, rfl, h2, r2⟩ := trodAll_cons r1
  obtain ⟨v3, vs3, d3, ds3, p3, q3, rfl, rfl, rfl, h3, r3⟩ := trodAll_cons r2
  obtain ⟨rfl, rfl, rfl⟩ := trodAll_nil r3
  obtain rfl : args = #[v0, v1, v2, v3] := by cases args; simp_all
  obtain ⟨rfl, rfl⟩ := trodVars_none hV
  have k0 := h0
  have lt0 : ∀ x ∈ p0, x.block < W.heap.size := by obtain ⟨m, hm⟩ := k0; exact DataW.trod_lt m _ _ _ hm
  obtain ⟨x0, y0, rfl, w0⟩ := open_code (hval 0 24 v0 rfl rfl) h0
  have k1 := h1
  have lt1 : ∀ x ∈ p1, x.block < W.heap.size := by obtain ⟨m, hm⟩ := k1; exact DataW.trod_lt m _ _ _ hm
  obtain ⟨x1, y1, rfl, w1⟩ := open_at (hval 1 26 v1 rfl rfl) h1
  have k2 := h2
  have lt2 : ∀ x ∈ p2, x.block < W.heap.size := by obtain ⟨m, hm⟩ := k2; exact DataW.trod_lt m _ _ _ hm
  obtain ⟨x2, y2, rfl, w2⟩ := open_at (hval 2 26 v2 rfl rfl) h2
  obtain ⟨a3, rfl, rfl, rfl, w3⟩ := open_int Tryz.underlying3 (hval 3 3 v3 rfl rfl) h3
  clear hA0 hval0
  simp only [List.append_nil] at hW'
  refine (walk x0 y0 x1 y1 x2 y2 a3 W hL (wf_i64 w0.1) (wf_i64 w0.2) (wf_i64 w1.1) (wf_i64 w1.2) (wf_i64 w2.1) (wf_i64 w2.2) (wf_i64 w3)).mono fun e W' ⟨he, bel⟩ => ?_
  subst he
  exact ⟨_, rfl, _, _, _, [], _, [], hW', trodAll_mk1 (shut_bool Tryz.underlying4 _), (trodAll_cons_mk (Below.trod laidOut (by kernel_rfl) (of_decide_eq_true (by kernel_rfl)) k0 bel lt0) (trodAll_cons_mk (Below.trod laidOut (by kernel_rfl) (of_decide_eq_true (by kernel_rfl)) k1 bel lt1) (trodAll_cons_mk (Below.trod laidOut (by kernel_rfl) (of_decide_eq_true (by kernel_rfl)) k2 bel lt2) (trodAll_cons_mk (shut_int Tryz.underlying3 w3) trodAll_mk0)))), rfl, bel.frame _, fun h => by cases h⟩

theorem over : Rows.setsLinesRow.holds Tryz.pinned (OpenSpec.ofChange Rows.setsLinesSpec) :=
  OpenClaim.holds_of_wide 5 Tryz.f5 rfl rfl rfl rfl rfl rfl rfl ⟨rfl, rfl, rfl, rfl, rfl⟩ rfl rfl rfl rfl rfl (by kernel_rfl) Tryz.func5 (by kernel_rfl)
    (of_decide_eq_true (by kernel_rfl)) (by unfold Func.isWrapper; first | (rw [if_pos (by decide +kernel)]; kernel_rfl) | (rw [if_neg (by decide +kernel)]; exact ⟨rfl, rfl⟩))
    (fun os started H enc _ => lifted os started H enc)

/-- The tied card: the row, and the tie that is given. -/
theorem setsLines_holds : Rows.SetsLinesCardSaid :=
  Claim7.holds_tied_plain_at .later [] [.data, .data] true _ false over (fun _ h => by cases h) (by kernel_rfl) (fun _ h => by cases h) setsLines_row_tie rfl ⟨rfl, rfl⟩ (by kernel_rfl) rfl
    (fun f fn hf hfn => by
      obtain rfl : f = 5 := Option.some.inj ((show Tryz.prog.funcNamed "palisade/palisadelaw05.SetsLines" = some 5 by kernel_rfl).symm.trans hf) |>.symm
      obtain rfl : fn = Tryz.f5 := (Option.some.inj (Tryz.func5.symm.trans hfn)).symm
      exact ⟨by kernel_rfl, fun j t ht => by
        rw [Tryz.params5] at ht
        have hm : t ∈ [24, 26, 26, 3] := by simpa using Array.mem_of_getElem? ht
        have hall : ([24, 26, 26, 3].all fun u => !Tryz.prog.wantsStandIn u) = true := by kernel_rfl
        exact (show Tryz.prog.wantsStandIn t = false by simpa using List.all_eq_true.1 hall t hm)⟩)
    (by kernel_rfl)
end Go.Proofs.YteglikljmkielaaGreatDoor.setsLines
