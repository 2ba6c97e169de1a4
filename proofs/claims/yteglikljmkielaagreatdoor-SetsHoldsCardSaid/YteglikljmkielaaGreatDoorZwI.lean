/- Sets: down columns, one behind the other. -/
import Derived.Test.YteglikljmkielaaGreatDoorZwH
import Derived.Test.YteglikljmkielaaGreatDoorZwL
namespace Go.Proofs.YteglikljmkielaaGreatDoor
open Go.RowKit Go.Shelf
set_option linter.unusedSimpArgs false
set_option linter.unusedVariables false
attribute [local go_sem] Oper.semAt_some

theorem far_laid {β : Type} {B : Nat} {W0 : World} (hL : Laid W0) (hB : W0.heap.size ≤ B) : Far B (fun (_ : β) W => Laid W) := fun s X Y row hs hg hr => by
  have h1 := hL.1.lt
  have h2 := hL.2.lt
  exact ⟨hs.1.grown hg (fun e => by have := hr _ e.symm; omega), hs.2.grown hg (fun e => by have := hr _ e.symm; omega)⟩
theorem farO_laid {β : Type} {B : Nat} {W0 : World} (hL : Laid W0) (hB : W0.heap.size ≤ B) : FarO B (fun (_ : β) (_ : Option Nat) W => Laid W) := fun s o X Y row hs hg hr => far_laid (β := β) hL hB s X Y row hs hg (fun r e => (hr r e).1)
section
variable {B lo mm : Nat} {X Y Z : World} {o o' : Option Nat}
theorem farO_keep {β : Type} {B' : Nat} (V : World) (hB : V.heap.size ≤ B') (hk : lo + mm ≤ V.heap.size) : FarO B' (fun (_ : β) (_ : Option Nat) X => Keep lo mm V X) := fun s o X Y row hs hg hr =>
  hs.trans ⟨hg.size, fun b h1 h2 => by
    rcases Nat.lt_or_ge b X.heap.size with h3 | h3
    · exact hg.block b h3 (fun e => by have := (hr b e.symm).1; omega)
    · exact absurd h3 (by have := hs.1; omega)⟩
theorem farO_since {β : Type} {B' : Nat} (V : World) (o₀ : Option Nat) (hB : V.heap.size ≤ B') : FarO B' (fun (_ : β) (_ : Option Nat) X => SinceO B o₀ V X) := fun s o X Y row hs hg hr =>
  ⟨Nat.le_trans hs.1 hg.size, fun b h1 h2 h3 => (hg.block b (by have := hs.1; omega) (fun e => by have := (hr b e.symm).1; omega)).trans (hs.2 b h1 h2 h3)⟩
theorem Left.sinceO {base : Nat} {Ds : List Nat} (h : Left base X Ds) (hs : SinceO B o X Y) (hB : B ≤ base) (hr : RowO o X) : Left base Y Ds :=
  ⟨h.1, fun D hD => ⟨(h.2 D hD).1, (hs.2 D (Nat.le_trans hB (h.2 D hD).1) (h.lt hD) (hr.ne (h.2 D hD).2)).trans (h.2 D hD).2⟩⟩
theorem Left.more_ {base : Nat} {Ds : List Nat} (h : Left base X Ds) (hs : SinceO B o X Y) (hB : B ≤ base) (hr : RowO o X) {D : Nat} (hb : base ≤ D) (hn : X.heap.size ≤ D) (hD : Y.heap[D]? = some (.deferred (some []))) : Left base Y (D :: Ds) := by
  refine ⟨List.nodup_cons.2 ⟨fun hm => by have := h.lt hm; omega, h.1⟩, fun E hE => ?_⟩
  rcases List.mem_cons.1 hE with rfl | hE
  · exact ⟨hb, hD⟩
  · exact (h.sinceO hs hB hr).2 E hE
end
theorem leaves_farO {β : Type} {F : Fence} {n : Nat} {P : Program} {fn : Func} {tmps : Array Value} {R : Ending → World → Prop} {B : Nat} {I : β → Option Nat → World → Prop} (hI : FarO B I) (s : β) (o : Option Nat) (hr : ∀ X, I s o X → RowO o X) :
    ∀ (Ds : List Nat) (W : World), Left B W Ds → I s o W → (∀ W' : World, I s o W' → LeavesInM F n P fn tmps R [] .returning W') → LeavesInM F n P fn tmps R (leftOf Ds) .returning W
  | [], W, _, hs, h => h W hs
  | D :: Ds, W, hL, hs, h => by
    obtain ⟨hb, hD⟩ := hL.2 D (.head _)
    have hn := List.nodup_cons.1 hL.1
    refine ⟨by simp, .inl ⟨_, _, rfl, run_takeDeferred hD, ?_⟩⟩
    refine leaves_farO hI s o hr Ds _ ⟨hn.2, fun E hE => ⟨(hL.2 E (.tail _ hE)).1, ?_⟩⟩ (hI.put hs hb ((hr _ hs).ne hD) _) h
    have hne : E ≠ D := fun e => hn.1 (by rw [← e]; exact hE)
    exact (World.putObj_heap_other hne).trans (hL.2 E (.tail _ hE)).2
/-- What keeps a stretch keeps what the program lays, too. -/
def KeepL (lo k : Nat) (X Y : World) : Prop := Keep lo k X Y ∧ (Laid X → Laid Y)
theorem KeepL.trans {lo k : Nat} {X Y Z : World} (h : KeepL lo k X Y) (h' : KeepL lo k Y Z) : KeepL lo k X Z := ⟨h.1.trans h'.1, fun hL => h'.2 (h.2 hL)⟩
/-- The places of columns, one behind the other. -/
def flatC (p : Int) (cs : List Int) : List (Int × Int) := cs.flatMap fun x => (rowsL p).map fun y => (x, y)
theorem flatC_next (p : Int) (cs : List Int) (i : Nat) (hi : i < cs.length) : flatC p (cs.take (i + 1)) = flatC p (cs.take i) ++ (rowsL p).map (fun y => (cs[i], y)) := by
  unfold flatC
  rw [List.take_succ_eq_append_getElem hi, List.flatMap_append, List.flatMap_singleton]
theorem flatC_prefix (p : Int) (cs : List Int) (i : Nat) (hi : i < cs.length) (pre : List Int) (h : pre <+: rowsL p) : flatC p (cs.take i) ++ pre.map (fun y => (cs[i], y)) <+: flatC p cs := by
  obtain ⟨t, ht⟩ := h
  have e : cs = cs.take i ++ cs[i] :: cs.drop (i + 1) := by rw [← List.drop_eq_getElem_cons hi, List.take_append_drop]
  refine ⟨t.map (fun y => (cs[i], y)) ++ flatC p (cs.drop (i + 1)), ?_⟩
  have e2 : flatC p cs = flatC p (cs.take i) ++ ((rowsL p).map (fun y => (cs[i], y)) ++ flatC p (cs.drop (i + 1))) := by
    unfold flatC
    conv => lhs; rw [e]
    rw [List.flatMap_append, List.flatMap_cons]
  rw [e2, ← ht, List.map_append, List.append_assoc, List.append_assoc]
theorem flatC_len (p : Int) (hp : p ∈ prm) (cs : List Int) : (flatC p cs).length ≤ 16 * cs.length := by
  have hl := (rows_walk p hp).2.1
  have hb := prm_bounds hp
  have h16 : (rowsL p).length ≤ 16 := by omega
  unfold flatC
  induction cs with
  | nil => simp
  | cons x cs ih => rw [List.flatMap_cons, List.length_append, List.length_map, List.length_cons]; omega

set_option maxRecDepth 100000 in
set_option maxHeartbeats 4000000 in
theorem setsDown_in (n : Nat) (hn : 6 ≤ n) (l g h lo mm bq cap : Nat) (k p d c : Int) (hR : RightC k p) (cs : List Int) (hcs : ∀ x ∈ cs, HasCol k p x) (hcl : cs.length ≤ 20) (hg : lo ≤ g ∧ g < lo + mm) (hh : lo ≤ h ∧ h < lo + mm) (hq : lo ≤ bq ∧ bq < lo + mm) (W : World) (hW : lo + mm ≤ W.heap.size) (hL : Laid W)
    (J Jx : List (Int × Int) → Option Nat → World → Prop) (o₀ : Option Nat) (ho₀ : ∀ b, o₀ = some b → b < W.heap.size) (hJ : FarO W.heap.size J) (hJx : FarO W.heap.size Jx) (hr1 : ∀ s o X, J s o X → RowO o X) (hr2 : ∀ s o X, Jx s o X → RowO o X)
    (hY : ∀ pre x o W1, J pre o W1 → x ∈ flatC p cs → pre.length < 1000 → W.heap.size ≤ W1.heap.size → YieldAt Fence.wide (n - 1) Tryz.prog l #[.agg #[.int .i64 x.1, .int .i64 x.2]] W1 fun e W' => ∃ o', FreshO o o' W1 ∧ SinceO W.heap.size o W1 W' ∧ ((e = .returned (.bool true) ∧ J (pre ++ [x]) o' W' ∧ KeepL lo mm W1 W') ∨ (e = .returned (.bool false) ∧ Jx (pre ++ [x]) o' W')))
    (bg : Blk W g 51 #[.int .i64 k, .int .i64 p, .int .i64 d, .int .i64 c]) (bh : Blk W h 67 #[.slice (some ⟨bq, 0, none⟩) cs.length cap]) (hc : ∀ (j : Nat) (hj : j < cs.length), W.cell? ⟨bq, j, none⟩ = some (.int .i64 cs[j])) (h0 : J [] o₀ W) :
    CallsIn Fence.wide n Tryz.prog 74 #[.func (.yield l) #[] #[], .pointer (some ⟨h, 0, none⟩), .pointer (some ⟨g, 0, none⟩)] W fun e W' => (∃ v, e = .returned v) ∧ ∃ o', FreshO o₀ o' W ∧ ((∃ zs, zs = flatC p cs ∧ J zs o' W') ∨ (∃ pre, pre <+: flatC p cs ∧ Jx pre o' W')) := by
  refine callsIn_of_wp_marks Tryz.func74 rfl trivial ?_ rfl
  simp only [Tryz.ntmps74, List.size_toArray, List.length_cons, List.length_nil, Nat.reduceAdd, Nat.reduceSub, Array.replicate_succ, Array.replicate_zero, List.push_toArray, List.append_toArray, List.nil_append, List.cons_append]
  obtain ⟨W0, hW0⟩ : ∃ W0, W.alloc (.cells #[.func (.yield l) #[] #[]] 49) = W0 := ⟨_, rfl⟩
  have hB0 : Below W.heap.size W W0 := by rw [← hW0]; exact below_one W _
  have bY : Blk W0 W.heap.size 49 #[.func (.yield l) #[] #[]] := by rw [← hW0]; exact Blk.new W _ _
  have s0 : W0.heap.size = W.heap.size + 1 := by rw [← hW0]; simp
  have bh0 := bh.below hB0 bh.lt
  have hL0 := hL.next hB0
  have hJ0 : J [] o₀ W0 := hJ.below h0 hB0
  have c0 := bh0.one
  gi_wp2_with fail
  refine wpIn_scope_wide ?_
  gi_wp2_with fail
  refine wpIn_label ?_
  gi_wp2_with fail
  clear hW0 c0
  refine loop_left [9, 5, 10, 11, 12, 13, 14, 15, 16, 22] (fun m vs Ds V => ∃ (i : Nat) (y5 y10 y11 y12 y13 y14 y15 y16 y22 : Value) (o : Option Nat), vs = [.int .i64 (i : Int), y5, y10, y11, y12, y13, y14, y15, y16, y22] ∧ i + m = cs.length ∧ J (flatC p (cs.take i)) o V ∧ FreshO o₀ o W ∧ some W.heap.size ≠ o ∧ Laid V ∧ Blk V W.heap.size 49 #[.func (.yield l) #[] #[]] ∧ Keep lo mm W0 V ∧ Left W.heap.size V Ds) cs.length
    [.int .i64 0, undef, undef, undef, undef, undef, undef, undef, undef, undef] (by kernel_rfl) ⟨0, undef, undef, undef, undef, undef, undef, undef, undef, undef, o₀, by kernel_rfl, by omega, by exact hJ0, .inl rfl, fun e => by have := ho₀ _ e.symm; omega, hL0, bY, Keep.refl _ _ _, Left.nil _ _⟩ ?_
  clear hJ0 h0
  rintro m vs Ds V ⟨i, y5, y10, y11, y12, y13, y14, y15, y16, y22, o, rfl, him, hj, hfo, hYo, hLV, bYV, hKV, hLe⟩ K hK
  simp only [sets, List.setIfInBounds_toArray, List.set_cons_zero, List.set_cons_succ]
  have bhV := hKV.blk bh0 hh.1 hh.2
  have bgV := hKV.blk (bg.below hB0 bg.lt) hg.1 hg.2
  have hsV := hKV.1
  have hro := hr1 _ _ _ hj
  have holt := hro.lt
  by_cases hlt : i < cs.length
  · have hdec : decide ((i : Int) < (cs.length : Int)) = true := by simp; omega
    have hx0 := (World.cell?_of_block (a := ⟨bq, i, none⟩) (hKV.2 bq hq.1 hq.2)).trans (nextc (hc i hlt) hB0)
    have hcol := hcs cs[i] (List.getElem_mem hlt)
    have HN1 := Lib.hid (flatC_next p cs i hlt)
    have HXM : Hid (∀ z ∈ rowsL p, (cs[i], z) ∈ flatC p cs) := fun z hz => List.mem_flatMap.2 ⟨_, List.getElem_mem hlt, List.mem_map.2 ⟨z, hz, rfl⟩⟩
    have HN2 := Lib.hid (flatC_prefix p cs i hlt)
    have hpl : (flatC p (cs.take i)).length ≤ 320 := by have := flatC_len p hR.2 (cs.take i); rw [List.length_take] at this; omega
    generalize cs[i] = x at *
    have HCe := Lib.hid (shapeCells_anyO k p x V hLV)
    have i1 : (0 : Int) ≤ (i : Int) := by omega
    have i2 : (i : Int) < (cs.length : Int) := by omega
    have g0 := bgV.cell 0
    have g1 := bgV.cell 1
    simp only [List.getElem?_toArray, List.getElem?_cons_zero, List.getElem?_cons_succ] at g0 g1
    gi_wp2_with fail
    refine ⟨trivial, fun _ => by omega, (callsIn_wide.2 HCe.out).mono ?_⟩
    rintro e w7 ⟨v, rfl, ⟨zs, hcol2, gf, lb, rfl, eg, eq, hgo⟩, hB7⟩
    have hzs : zs = rowsL p := hcol2.elim (fun h => h.2.2) (fun h => absurd ⟨hR, hcol⟩ h.1)
    have hs7 := hB7.size
    have hK7 : Keep lo mm W0 w7 := hKV.trans (Keep.below hB7 (by omega))
    have hJ7 := hJ.below hj hB7
    have hL7 := hLV.next hB7
    have bY7 := bYV.below hB7 bYV.lt
    have HZ := Lib.hid hzs
    have hpt : (p.toNat : Int) ≤ 17 := by have := (prm_bounds hR.2).2; omega
    clear hzs hcol2 HCe eq g0 g1 hx0 bgV bhV
    gi_wp2_with fail
    refine wpIn_rangeBoxO rfl (by omega) (gf := gf) (lb := lb) rfl trivial eg (hgo (n - 1) (by omega)) (fun h h' => h.trans h') (fun W l o hl _ _ => Keep.putFar W (by omega) o) (Below.refl _ _) (fun _ => rfl)
      (fun pre oX X => J (flatC p (cs.take i) ++ pre.map (fun y => (x, y))) oX X ∧ FreshO o oX w7 ∧ Laid X ∧ Keep lo mm w7 X ∧ SinceO W.heap.size o w7 X)
      (fun c pre oX X => c = .exit 0 ∧ Jx (flatC p (cs.take i) ++ pre.map (fun y => (x, y))) oX X ∧ FreshO o oX w7 ∧ SinceO W.heap.size o w7 X)
      ?hI ?hIx o (fun b e => by have := holt b e; omega) ⟨by simpa using hJ7, .inl rfl, hL7, Keep.refl _ _ _, SinceO.refl _ _ _⟩
      (fun z => z ∈ zs) (fun _ _ h => h) 26 (fun z : Int => #[.int .i64 x, .int .i64 z]) ?a1
      ?assign (fun pre o W h => hr1 _ _ _ h.1) (fun c pre o W h => hr2 _ _ _ h.2.1) ?body ?done ?stop
    case hI =>
      exact FarO.and (fun s o X Y row hs hg hr => hJ _ o X Y row hs hg (fun r e => ⟨by have := (hr r e).1; omega, (hr r e).2⟩)) (FarO.and (farO_pure _ _) (FarO.and (farO_laid hL7 (Nat.le_refl _)) (FarO.and (farO_keep w7 (Nat.le_refl _) (by omega)) (farO_since w7 o (Nat.le_refl _)))))
    case hIx =>
      intro c
      exact FarO.and (farO_pure _ _) (FarO.and (fun s o X Y row hs hg hr => hJx _ o X Y row hs hg (fun r e => ⟨by have := (hr r e).1; omega, (hr r e).2⟩)) (FarO.and (farO_pure _ _) (farO_since w7 o (Nat.le_refl _))))
    case assign =>
      rintro l' pre z oX X KK hsz holX ⟨hj, hfX, hl, hkX, hst⟩ _ hKK
      gi_wp2
      have hbx := Blk.new X 26 #[.int .i64 x, .int .i64 z]
      have hBz := below_one X (.cells #[.int .i64 x, .int .i64 z] 26)
      have hSi : SinceO w7.heap.size oX X (X.alloc (.cells #[.int .i64 x, .int .i64 z] 26)) := SinceO.below hBz
      have hKe : Keep V.heap.size (w7.heap.size - V.heap.size) X (X.alloc (.cells #[.int .i64 x, .int .i64 z] 26)) := Keep.alloc (by omega) _
      have hj2 := hJ.below hj hBz
      have hl2 := hl.next hBz
      have hst2 := hst.trans hfX (SinceO.below hBz)
      have hkX2 := hkX.trans (Keep.below hBz (by have := hkX.1; omega))
      have hne : some X.heap.size ≠ oX := fun e => by have := holX _ e.symm; omega
      clear hBz holX
      generalize X.alloc (.cells #[.int .i64 x, .int .i64 z] 26) = X' at *
      generalize X.heap.size = Bx at *
      exact hKK Bx _ hSi hKe ⟨hj2, hfX, hl2, hkX2, hst2⟩ hbx hne hsz
    case body =>
      rintro l' pre z oX Bx X hsz ⟨hj, hfX, hl, hkX, hst⟩ hbx _ _ hzm hlz
      have hYc := (hst.blk bY7 (Nat.le_refl _) hYo).one
      have z0 := hbx.cell 0
      have z1 := hbx.cell 1
      simp only [List.getElem?_toArray, List.getElem?_cons_zero, List.getElem?_cons_succ] at z0 z1
      obtain ⟨fn, tmps, asg, bdy, hy, hRr⟩ := YieldAt.deep (m := n - 1 - 1 - 1) (hY _ (x, z) oX X hj (HXM.out z (by rw [← HZ.out]; exact hzm)) (by rw [List.length_append, List.length_map]; omega) (by omega))
      have hn3 : 1 ≤ n - 1 - 1 := by omega
      gi_wp2
      refine hRr.mono ?_
      have hmp : ∀ (q : List Int) (y : Int), flatC p (cs.take i) ++ q.map (fun y => (x, y)) ++ [(x, y)] = flatC p (cs.take i) ++ (q ++ [y]).map (fun y => (x, y)) := fun q y => by simp
      rintro e W3 ⟨o', hf3, hS3, (⟨rfl, hJ3, hk3⟩ | ⟨rfl, hJx3⟩)⟩
      · gi_wp2
        rw [hmp] at hJ3
        exact ⟨o', hf3, hS3.less (by omega), hS3.keep (by omega) (by omega) (fun b e => by rcases hfX with rfl | ⟨b2, rfl, hb2⟩ <;> first | (injection e with e; omega) | (have := holt b e; omega)), hJ3, hfX.trans hsz hf3, hk3.2 hl, hkX.trans hk3.1, hst.trans hfX hS3⟩
      · gi_wp2
        rw [hmp] at hJx3
        exact ⟨o', hf3, hS3.less (by omega), rfl, hJx3, hfX.trans hsz hf3, hst.trans hfX hS3⟩
    case done =>
      rintro D xs oX X hD _ rfl ⟨hj, hfX, hl, hkX, hst⟩ hKD _
      rw [HZ.out, ← HN1.out] at hj
      have hj0 := hj
      have hLe2 := hLe.more_ (Y := X) ((SinceO.below hB7).trans_ hst) (Nat.le_refl _) hro (D := D) (by omega) (by omega) hKD
      have hbYX := hst.blk bY7 (Nat.le_refl _) hYo
      have hKX := hK7.trans hkX
      have hfoX : FreshO o₀ oX W := hfo.trans (by omega) hfX
      have hYoX := hfX.ne (by have := bY7.lt; omega) hYo
      clear hst hj HN2 hY hkX hfX hr1 hr2 holt hro
      have hj := hj0
      clear hj0
      gi_wp2_with fail
      have hz := fun (y5 y10 y11 y12 y13 y14 y15 y16 y22 : Value) hr => hK (m - 1) [.int .i64 ((i : Int) + 1), y5, y10, y11, y12, y13, y14, y15, y16, y22] (D :: Ds) X (by omega) hr
      simp only [sets, List.setIfInBounds_toArray, List.set_cons_zero, List.set_cons_succ] at hz
      refine hz _ _ _ _ _ _ _ _ _ ⟨i + 1, _, _, _, _, _, _, _, _, _, oX, congrArg (fun x : Int => Value.int .i64 x :: _) (by push_cast; rfl), by omega, hj, hfoX, hYoX, hl, hbYX, hKX, hLe2⟩
    case stop =>
      rintro D c pre oX X hD _ hSp ⟨rfl, hjx, hfX, hst⟩ hKD _
      have hLe2 := hLe.more_ (Y := X) ((SinceO.below hB7).trans_ hst) (Nat.le_refl _) hro (D := D) (by omega) (by omega) hKD
      have hfoX : FreshO o₀ oX W := hfo.trans (by omega) hfX
      rw [HZ.out] at hSp
      have hpre := HN2.out pre hSp
      gi_wp2
      rw [Exit.noGoto_normal]
      exact leaves_farO (B := W.heap.size) (I := fun (_ : Unit) o X => Jx (flatC p (cs.take i) ++ pre.map (fun y => (x, y))) o X) (fun s o X Y row hs hg hr => hJx _ o X Y row hs hg hr) () oX (fun X h => hr2 _ _ _ h) (D :: Ds) _ hLe2 hjx (fun W' h => ⟨_, results_none rfl _ _ _, ⟨_, rfl⟩, oX, hfoX, .inr ⟨_, hpre, h⟩⟩)
  · obtain rfl : i = cs.length := by omega
    have hdec : decide ((cs.length : Int) < (cs.length : Int)) = false := by simp
    rw [List.take_of_length_le (Nat.le_refl _)] at hj
    gi_wp2
    rw [Exit.noGoto_normal]
    exact leaves_farO (B := W.heap.size) (I := fun (_ : Unit) o X => J (flatC p cs) o X) (fun s o X Y row hs hg hr => hJ _ o X Y row hs hg hr) () o (fun X h => hr1 _ _ _ h) Ds _ hLe hj (fun W' h => ⟨_, results_none rfl _ _ _, ⟨_, rfl⟩, o, hfo, .inl ⟨_, rfl, h⟩⟩)
end Go.Proofs.YteglikljmkielaaGreatDoor
