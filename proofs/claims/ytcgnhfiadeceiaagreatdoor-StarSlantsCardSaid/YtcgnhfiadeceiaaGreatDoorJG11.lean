/- STAR: cells gathered by slants. The document's Upon: cells at places, put upon one another. The document's Line: the data cells of a diagonal, put upon one another. -/
import Derived.Test.YtcgnhfiadeceiaaGreatDoorJG10
import Derived.Test.YtcgnhfiadeceiaaGreatDoorJG6
import Derived.Test.YtcgnhfiadeceiaaGreatDoorJG8
import Derived.Test.YtcgnhfiadeceiaaGreatDoorJCA
namespace Go.Proofs.YtcgnhfiadeceiaaGreatDoor.T
open Go.RowKit Go.Shelf Go.Proofs.YtcgnhfiadeceiaaGreatDoor.C Go.Proofs.YtcgnhfiadeceiaaGreatDoor.E
set_option linter.unusedSimpArgs false
set_option linter.unusedVariables false
attribute [local go_sem] Oper.semAt_some

theorem enter_slant : ∀ args W, (callFunc 85 args).run Tryz.prog W = .ok (.enter 85 args) W := enters_of Tryz.func85 (by kernel_rfl) rfl
theorem spanL_len (P : Nat) : (spanL 0 (P : Int)).length = P := by unfold spanL; simp
theorem spanL_get (P : Nat) (i : Nat) (hi : i < P) : (spanL 0 (P : Int))[i]? = some (i : Int) := by
  unfold spanL
  rw [List.getElem?_map, List.getElem?_range (by omega)]
  simp
theorem spanL_at (P : Nat) (i : Nat) (hi : i < (spanL 0 (P : Int)).length) : (spanL 0 (P : Int))[i] = (i : Int) := by
  have h := spanL_get P i (by rwa [spanL_len] at hi)
  rw [List.getElem?_eq_getElem hi] at h
  injection h
/-- The places down a column. -/
def downC (x : Int) (ys : List Int) : List (Int × Int) := ys.map fun y => (x, y)
theorem downC_snoc (l : List (Int × Int)) (x : Int) (ys : List Int) (y : Int) : l ++ downC x ys ++ [(x, y)] = l ++ downC x (ys ++ [y]) := by unfold downC; simp
theorem RowG.form {α : Type} {r : Rep α} {t : TypeId} {d : α} {Q : Nat → Prop} {W : World} {base : Nat} {v : Value} {xs : List α} (h : RowG r t d Q W base v xs) : ∃ A n c, v = .slice A n c := by
  obtain ⟨us, ho, _⟩ := h
  rcases ho.2 with ⟨h1, _⟩ | ⟨g, cap, cur, h1, _⟩
  · exact ⟨_, _, _, h1⟩
  · exact ⟨_, _, _, h1⟩
theorem list17 (ws : List Value) (h : ws.length = 17) : ws = (List.range 17).map (slotV ws) := by
  refine List.ext_getElem (by simp [h]) fun j h1 h2 => ?_
  rw [List.getElem_map, List.getElem_range]
  unfold slotV
  rw [List.getElem?_eq_getElem h1]
  rfl
set_option maxRecDepth 100000 in
set_option maxHeartbeats 8000000 in
theorem gathered_any {B : Nat} (p : Int) (v : Value) (css : List (List (List UInt8))) (w : World) (hL : Laid w) (hB : B ≤ w.heap.size) (hC : Cols B w v css) (hok : DataOk p css) :
    Calls Tryz.prog 84 #[.agg #[.int .i64 3, .int .i64 p, v], .func (.func 85) #[] #[]] w fun e w' => ∃ vs : List Value, e = .returned (.agg vs.toArray) ∧ vs.length = 17 ∧
      (∀ n, n < 17 → RowM (· < B) w' w.heap.size (slotV vs n) ((bySl p n (flatC p (spanL 0 p))).map (cellI css))) ∧ Below w.heap.size w w' := by
  have hd := dataOk_n hok
  have hpr : p ∈ prm := hok.1.2
  have hg := togOk_grid hok.2.2
  obtain ⟨b1, off1, cap, rfl, hcap, hb1, _⟩ := hC.at_ hok.2.2.1
  obtain ⟨N, hN⟩ : ∃ N, css.length = N := ⟨_, rfl⟩
  have hpN : p = (N : Int) := by omega
  have hN17 : N ≤ 17 := by omega
  obtain ⟨w0, hw0⟩ : ∃ w0, (((w.alloc (.cells #[.int .i64 3, .int .i64 p, .slice (some ⟨b1, off1, none⟩) N cap] 60)).alloc (.cells #[.func (.func 85) #[] #[]] 105)).alloc (.cells #[.slice none 0 0, .slice none 0 0, .slice none 0 0, .slice none 0 0, .slice none 0 0, .slice none 0 0, .slice none 0 0, .slice none 0 0, .slice none 0 0, .slice none 0 0, .slice none 0 0, .slice none 0 0, .slice none 0 0, .slice none 0 0, .slice none 0 0, .slice none 0 0, .slice none 0 0] 103)).alloc (.cells #[.slice none 0 0, .slice none 0 0, .slice none 0 0, .slice none 0 0, .slice none 0 0, .slice none 0 0, .slice none 0 0, .slice none 0 0, .slice none 0 0, .slice none 0 0, .slice none 0 0, .slice none 0 0, .slice none 0 0, .slice none 0 0, .slice none 0 0, .slice none 0 0, .slice none 0 0] 103) = w0 := ⟨_, rfl⟩
  have hB0 : Below w.heap.size w w0 := by rw [← hw0]; exact (((below_one w _).alloc (by simp) _).alloc (by simp; omega) _).alloc (by simp; omega) _
  have s0 : w0.heap.size = w.heap.size + 4 := by rw [← hw0]; simp
  have q0 : Blk w0 w.heap.size 60 #[.int .i64 3, .int .i64 p, .slice (some ⟨b1, off1, none⟩) N cap] := by rw [← hw0]; exact (((Blk.new w _ _).alloc _).alloc _).alloc _
  have q1 : Blk w0 (w.heap.size + 1) 105 #[.func (.func 85) #[] #[]] := by rw [← hw0]; exact ((Blk.second w _ _ _).alloc _).alloc _
  have q2 : Blk w0 (w.heap.size + 2) 103 #[.slice none 0 0, .slice none 0 0, .slice none 0 0, .slice none 0 0, .slice none 0 0, .slice none 0 0, .slice none 0 0, .slice none 0 0, .slice none 0 0, .slice none 0 0, .slice none 0 0, .slice none 0 0, .slice none 0 0, .slice none 0 0, .slice none 0 0, .slice none 0 0, .slice none 0 0] := by
    rw [← hw0]
    have h := Blk.new ((w.alloc (.cells #[.int .i64 3, .int .i64 p, .slice (some ⟨b1, off1, none⟩) N cap] 60)).alloc (.cells #[.func (.func 85) #[] #[]] 105)) 103 #[.slice none 0 0, .slice none 0 0, .slice none 0 0, .slice none 0 0, .slice none 0 0, .slice none 0 0, .slice none 0 0, .slice none 0 0, .slice none 0 0, .slice none 0 0, .slice none 0 0, .slice none 0 0, .slice none 0 0, .slice none 0 0, .slice none 0 0, .slice none 0 0, .slice none 0 0]
    simp only [World.size_alloc] at h
    exact h.alloc _
  have q3 : Blk w0 (w.heap.size + 3) 103 (List.replicate 17 (.slice none 0 0)).toArray := by
    rw [← hw0]
    have h := Blk.new (((w.alloc (.cells #[.int .i64 3, .int .i64 p, .slice (some ⟨b1, off1, none⟩) N cap] 60)).alloc (.cells #[.func (.func 85) #[] #[]] 105)).alloc (.cells #[.slice none 0 0, .slice none 0 0, .slice none 0 0, .slice none 0 0, .slice none 0 0, .slice none 0 0, .slice none 0 0, .slice none 0 0, .slice none 0 0, .slice none 0 0, .slice none 0 0, .slice none 0 0, .slice none 0 0, .slice none 0 0, .slice none 0 0, .slice none 0 0, .slice none 0 0] 103)) 103 #[.slice none 0 0, .slice none 0 0, .slice none 0 0, .slice none 0 0, .slice none 0 0, .slice none 0 0, .slice none 0 0, .slice none 0 0, .slice none 0 0, .slice none 0 0, .slice none 0 0, .slice none 0 0, .slice none 0 0, .slice none 0 0, .slice none 0 0, .slice none 0 0, .slice none 0 0]
    simp only [World.size_alloc] at h
    exact h
  have HG0 : Hid (∀ w1, Below w0.heap.size w0 w1 → Gat B (w.heap.size + 4) p css (w.heap.size + 3) [] w1 (List.replicate 17 (.slice none 0 0))) := fun w1 h => (gat_none B (w.heap.size + 4) p css (w.heap.size + 3) w0 q3).below h
  have HCEL := Lib.hid (fun (i y : Nat) (hi : i < N) (hy : y < (p - 1).toNat) (U : World) (hU : Below w.heap.size w U) => cell_any (B := B) (.slice (some ⟨b1, off1, none⟩) N cap) css (p - 1).toNat (firstC css).length i y U (Nat.le_trans hB hU.size) (by have h := hC.below (hU.mono hB); rwa [hN] at h) hg (by omega) hy)
  have HSL := Lib.hid (fun (i y : Nat) (hi : i < N) (hy : y < (p - 1).toNat) (U : World) (hU : Below w.heap.size w U) => slant_any p (i : Int) (y : Int) (some ⟨b1, off1, none⟩) N cap hpr (by unfold HasCell; rw [show shortN 3 = 0 from rfl, show madeN 3 = 3 from rfl]; omega) U (hL.next hU))
  have HCE := Lib.hid (fun (i : Nat) (U : World) (hU : Below w.heap.size w U) => shapeCells_anyO 3 p (i : Int) U (hL.next hU))
  have HHC : Hid (∀ i : Nat, i < N → HasCol 3 p (i : Int) ∧ RightC 3 p) := fun i hi => ⟨by unfold HasCol; rw [show shortN 3 = 0 from rfl, show madeN 3 = 3 from rfl]; omega, rightC3 hpr⟩
  have hent := enter_slant
  rw [hN]
  rw [hN] at hcap
  have HLL := Lib.hid hL
  have HPP := Lib.hid hpN
  have HPR := Lib.hid hpr
  have HPB := Lib.hid hd.2
  clear hC hok hd hg hL hN hpr hcap q3 hpN
  have k0 := q0.cell 0; have k1 := q0.cell 1; have k2 := q0.cell 2; simp only [List.getElem?_toArray, List.getElem?_cons_zero, List.getElem?_cons_succ] at k0 k1 k2
  refine (callsIn_wide (n := 9)).1 ?_
  refine callsIn_of_wp_marks Tryz.func84 rfl trivial ?_ rfl
  simp only [Tryz.ntmps84, List.size_toArray, List.length_cons, List.length_nil, Nat.reduceAdd, Nat.reduceSub, Array.replicate_succ, Array.replicate_zero, List.push_toArray, List.append_toArray, List.nil_append, List.cons_append]
  gi_wp2_with fail
  clear hw0 k0 k1 k2
  rw [show w.heap.size + 1 + 1 + 1 = w.heap.size + 3 from rfl, show w.heap.size + 1 + 1 = w.heap.size + 2 from rfl]
  refine loop_left [12, 6, 13, 14, 15, 16, 17, 18, 35] (fun m vs Ds U => ∃ (i : Nat) (y6 y13 y14 y15 y16 y17 y18 y35 : Value) (ws : List Value), vs = [.int .i64 (i : Int), y6, y13, y14, y15, y16, y17, y18, y35] ∧ i + m = N ∧ Gat B (w.heap.size + 4) p css (w.heap.size + 3) (flatC p ((spanL 0 p).take i)) U ws ∧ Below w.heap.size w U ∧ Blk U w.heap.size 60 #[.int .i64 3, .int .i64 p, .slice (some ⟨b1, off1, none⟩) N cap] ∧ Blk U (w.heap.size + 1) 105 #[.func (.func 85) #[] #[]] ∧ Blk U (w.heap.size + 2) 103 #[.slice none 0 0, .slice none 0 0, .slice none 0 0, .slice none 0 0, .slice none 0 0, .slice none 0 0, .slice none 0 0, .slice none 0 0, .slice none 0 0, .slice none 0 0, .slice none 0 0, .slice none 0 0, .slice none 0 0, .slice none 0 0, .slice none 0 0, .slice none 0 0, .slice none 0 0] ∧ Left (w.heap.size + 4) U Ds) N
    [.int .i64 0, undef, undef, undef, undef, undef, undef, undef, undef] (by kernel_rfl) ⟨0, undef, undef, undef, undef, undef, undef, undef, undef, _, by kernel_rfl, by omega, HG0.out _ (Below.refl _ _), hB0, q0, q1, q2, Left.nil _ _⟩ ?_
  clear q0 q1 q2
  rintro m vs Ds U ⟨i, y6, y13, y14, y15, y16, y17, y18, y35, ws, rfl, him, hG, hBU, q0, q1, q2, hLe⟩ K hK
  simp only [sets, List.setIfInBounds_toArray, List.set_cons_zero, List.set_cons_succ]
  have hro := hG.rowO
  have hgbl := hG.blk.lt
  by_cases hlt : i < N
  · have hdec : decide ((i : Int) < (N : Int)) = true := by simp; omega
    have HN1 : Hid (flatC p ((spanL 0 p).take i) ++ downC (i : Int) (rowsL p) = flatC p ((spanL 0 p).take (i + 1))) := by
      unfold Hid downC
      rw [HPP.out, flatC_next (N : Int) (spanL 0 (N : Int)) i (by rw [spanL_len]; exact hlt), spanL_at]
    have hpl : (flatC p ((spanL 0 p).take i)).length ≤ 320 := by have := flatC_len p HPR.out ((spanL 0 p).take i); rw [List.length_take] at this; omega
    have k0 := q0.cell 0; have k1 := q0.cell 1; have k2 := q0.cell 2; simp only [List.getElem?_toArray, List.getElem?_cons_zero, List.getElem?_cons_succ] at k0 k1 k2
    have hce := HCE.out i U hBU
    gi_wp2_with fail
    refine ⟨trivial, (callsIn_wide.2 hce).mono ?_⟩
    rintro e w7 ⟨v7, rfl, ⟨zs, hcol2, gf, lb, rfl, eg, eq, hgo⟩, hB7⟩
    have hzs : zs = rowsL p := hcol2.elim (fun h => h.2.2) (fun h => absurd ⟨(HHC.out i hlt).2, (HHC.out i hlt).1⟩ h.1)
    have HZ := Lib.hid hzs
    have hs7 := hB7.size
    have hBw7 := below_in hBU hB7
    have hG7 := hG.below hB7
    have r0 := q0.below hB7 q0.lt
    have r1 := q1.below hB7 q1.lt
    have r2 := q2.below hB7 q2.lt
    have hown : ∀ b, ownsB ws b → b < U.heap.size := hro.lt
    clear hzs hcol2 hce eq k0 k1 k2 q0 q1 q2
    gi_wp2_with fail
    refine wpIn_rangeBoxT rfl (by omega) (gf := gf) (lb := lb) rfl trivial eg (hgo _ (by omega)) (fun h h' => h.trans h') (fun W l o hl _ _ => Keep.putFar W (by omega) o) (Below.refl _ _) (fun _ => rfl)
      (fun pre oX X => (∃ ws', Gat B (w.heap.size + 4) p css (w.heap.size + 3) (flatC p ((spanL 0 p).take i) ++ downC (i : Int) pre) X ws' ∧ oX = ownsB ws') ∧ FreshO (ownsB ws) oX w7 ∧ Below w.heap.size w X ∧ Blk X w.heap.size 60 #[.int .i64 3, .int .i64 p, .slice (some ⟨b1, off1, none⟩) N cap] ∧ Blk X (w.heap.size + 1) 105 #[.func (.func 85) #[] #[]] ∧ Blk X (w.heap.size + 2) 103 #[.slice none 0 0, .slice none 0 0, .slice none 0 0, .slice none 0 0, .slice none 0 0, .slice none 0 0, .slice none 0 0, .slice none 0 0, .slice none 0 0, .slice none 0 0, .slice none 0 0, .slice none 0 0, .slice none 0 0, .slice none 0 0, .slice none 0 0, .slice none 0 0, .slice none 0 0] ∧ SinceO (w.heap.size + 4) (ownsB ws) w7 X)
      (fun _ _ _ _ => False)
      ?hI (fun c s o X Y row hs _ _ => hs) (ownsB ws) (fun b e => by have := hown b e; omega) ⟨⟨ws, by show Gat _ _ _ _ _ (_ ++ []) _ _; rw [List.append_nil]; exact hG7, rfl⟩, FreshO.refl _ _, hBw7, r0, r1, r2, SinceO.refl _ _ _⟩
      (fun z => z ∈ zs) (fun _ _ _ h => h) 71 (fun z : Int => #[.int .i64 (i : Int), .int .i64 z]) ?a1
      ?assign (fun pre o X h => by obtain ⟨⟨ws', hg', rfl⟩, _⟩ := h; exact hg'.rowO) (fun c pre o X h => h.elim) ?body ?done (fun D c pre o X _ _ _ h => h.elim)
    case hI =>
      exact FarO.and (Gat.far (by omega) (by omega) _) (FarO.and (farO_pure _ _) (FarO.and (farO_below (Nat.le_refl _) (by omega)) (FarO.and (farO_blk (by omega) _ _) (FarO.and (farO_blk (by omega) _ _) (FarO.and (farO_blk (by omega) _ _) (farO_since w7 _ (Nat.le_refl _)))))))
    case assign =>
      rintro l' pre z oX X KK hsz holX ⟨⟨ws', hg', rfl⟩, hfX, hbX, p0, p1, p2, hst⟩ _ hKK
      gi_wp2
      have hbx := Blk.new X 71 #[.int .i64 (i : Int), .int .i64 z]
      have hBz := below_one X (.cells #[.int .i64 (i : Int), .int .i64 z] 71)
      have hSi : SinceO w7.heap.size (ownsB ws') X (X.alloc (.cells #[.int .i64 (i : Int), .int .i64 z] 71)) := SinceO.below hBz
      have hKe : Keep U.heap.size (w7.heap.size - U.heap.size) X (X.alloc (.cells #[.int .i64 (i : Int), .int .i64 z] 71)) := Keep.alloc (by omega) _
      have hI2 := And.intro (⟨ws', hg'.below hBz, rfl⟩ : ∃ ws'', Gat B (w.heap.size + 4) p css (w.heap.size + 3) (flatC p ((spanL 0 p).take i) ++ downC (i : Int) pre) (X.alloc (.cells #[.int .i64 (i : Int), .int .i64 z] 71)) ws'' ∧ ownsB ws' = ownsB ws'') (⟨hfX, below_in hbX hBz, p0.below hBz p0.lt, p1.below hBz p1.lt, p2.below hBz p2.lt, hst.trans hfX (SinceO.below hBz)⟩ : _ ∧ _ ∧ _ ∧ _ ∧ _ ∧ _)
      have hne : ¬ ownsB ws' X.heap.size := fun e => by have := holX _ e; omega
      clear hBz holX
      generalize X.alloc (.cells #[.int .i64 (i : Int), .int .i64 z] 71) = X' at *
      generalize X.heap.size = Bx at *
      exact hKK Bx _ hSi hKe hI2 hbx hne hsz
    case body =>
      rintro l' pre z oX Bx X hsz ⟨⟨ws', hg', rfl⟩, hfX, hbX, p0, p1, p2, hst⟩ hbx hnBx hBx7 hzm hlz
      obtain ⟨y, rfl, hy⟩ : ∃ y : Nat, z = (y : Int) ∧ y < (p - 1).toNat := by
        rw [HZ.out] at hzm
        unfold rowsL at hzm
        obtain ⟨y, hy, rfl⟩ := List.mem_map.1 hzm
        exact ⟨y, rfl, List.mem_range.1 hy⟩
      obtain ⟨k, hk, hk17⟩ : ∃ k : Nat, ((y : Int) - (i : Int)) % p = (k : Int) ∧ k < 17 := by
        have hp3 := HPB.out
        have h0 := Int.emod_nonneg ((y : Int) - (i : Int)) (b := p) (by omega)
        have h1 := Int.emod_lt_of_pos ((y : Int) - (i : Int)) (b := p) (by omega)
        exact ⟨(((y : Int) - (i : Int)) % p).toNat, by omega, by omega⟩
      have HK := Lib.hid hk
      have HSLK : Hid (∀ V, Below w.heap.size w V → Calls Tryz.prog 85 #[.agg #[.int .i64 3, .int .i64 p, .slice (some ⟨b1, off1, none⟩) N cap], .agg #[.int .i64 (i : Int), .int .i64 (y : Int)]] V fun e w' => e = .returned (.int .i64 (k : Int)) ∧ Below V.heap.size V w') := fun V hV => by
        have h := HSL.out i y hlt hy V hV
        rw [HK.out] at h
        exact h
      have HCELL : Hid (∀ V, Below X.heap.size X V → Calls Tryz.prog 107 #[.slice (some ⟨b1, off1, none⟩) N cap, .agg #[.int .i64 (i : Int), .int .i64 (y : Int)]] V fun e w' => ∃ u, e = .returned u ∧ Bytes B w' u (cellI css ((i : Int), (y : Int))) ∧ Below V.heap.size V w') := fun V hV => HCEL.out i y hlt hy V (below_in hbX hV)
      obtain ⟨vA, vn, vc, hsv⟩ := RowG.form (hg'.row k hk17)
      have hX0 : w.heap.size + 3 < X.heap.size := hg'.blk.lt
      have HSV := Lib.hid hsv
      have HG := Lib.hid hg'
      have HOG : Hid (∀ b, (Value.slice vA vn vc).ownBlock = some b → ownsB ws' b ∧ w.heap.size + 4 ≤ b) := fun b e => ⟨⟨k, hk17, by rw [HSV.out]; exact e⟩, RowG.own_le (HSV.out ▸ HG.out.row k hk17) b e⟩
      have HROW : Hid (∀ V, Below X.heap.size X V → RowM (· < B) V (w.heap.size + 4) (.slice vA vn vc) ((bySl p k (flatC p ((spanL 0 p).take i) ++ downC (i : Int) pre)).map (cellI css))) := fun V hV => by
        have h := RowG.below (HG.out.row k hk17) hV
        rwa [HSV.out] at h
      have HUU : Hid (∀ (u : Value) (V V' : World), Bytes B V u (cellI css ((i : Int), (y : Int))) → Below X.heap.size X V → Below V.heap.size V V' → BytesP (fun b => b < V'.heap.size ∧ some b ≠ (Value.slice vA vn vc).ownBlock ∧ b < B) V' u (cellI css ((i : Int), (y : Int)))) := fun u V V' hu h1 h2 => by
        have hs1 := h1.size
        have hs2 := h2.size
        exact BytesP.imp (P := (· < B)) (hu.below (h2.mono (by omega))) fun b hb => ⟨by omega, fun e => by have := (HOG.out b e.symm).2; omega, hb⟩
      have HLEN : Hid (((bySl p k (flatC p ((spanL 0 p).take i) ++ downC (i : Int) pre)).map (cellI css)).length ≤ 100000) := by
        unfold Hid
        rw [List.length_map]
        refine Nat.le_trans (bySl_len _ _ _) ?_
        have hp3 := HPB.out
        rw [List.length_append]
        unfold downC
        rw [List.length_map]
        omega
      have HBS : Hid (∀ n, X.heap.size ≤ n → w.heap.size + 4 ≤ n) := fun n h => by omega
      have HSS : Hid (∀ V, Below X.heap.size X V → (fun U : World => U.cell? ⟨w.heap.size + 3, k, none⟩ = some (.slice vA vn vc) ∧ U.cell? ⟨w.heap.size, 2, none⟩ = some (.slice (some ⟨b1, off1, none⟩) N cap) ∧ U.cell? ⟨Bx, 0, none⟩ = some (.int .i64 (i : Int)) ∧ U.cell? ⟨Bx, 1, none⟩ = some (.int .i64 (y : Int))) V) := fun V hV => by
        have h1 := slot_cell (HG.out.below hV) hk17
        rw [HSV.out] at h1
        exact ⟨h1, (p0.below hV p0.lt).cell 2, (hbx.below hV hbx.lt).cell 0, (hbx.below hV hbx.lt).cell 1⟩
      have HNR : Hid (∀ (V V' : World), V.grownBy V' (Value.slice vA vn vc).ownBlock → ∀ b, b < V.heap.size → ¬ ownsB ws' b → V'.heap[b]? = V.heap[b]?) := fun V V' h b hb hn => h.block b hb fun e => hn (HOG.out b e.symm).1
      have hn0 : ∀ b, b < w.heap.size + 4 → ¬ ownsB ws' b := fun b hb e => by have := HG.out.base_le e; omega
      have HSB : Hid (∀ (V V' : World), Below X.heap.size X V → V.grownBy V' (Value.slice vA vn vc).ownBlock → (fun U : World => U.cell? ⟨w.heap.size + 3, k, none⟩ = some (.slice vA vn vc) ∧ U.cell? ⟨w.heap.size, 2, none⟩ = some (.slice (some ⟨b1, off1, none⟩) N cap) ∧ U.cell? ⟨Bx, 0, none⟩ = some (.int .i64 (i : Int)) ∧ U.cell? ⟨Bx, 1, none⟩ = some (.int .i64 (y : Int))) V') := fun V V' hV hgr => by
        have hs := hV.size
        have hbl := hbx.lt
        obtain ⟨h1, h2, h3, h4⟩ := HSS.out V hV
        have hb := HNR.out V V' hgr
        exact ⟨(World.cell?_of_block (hb _ (by show w.heap.size + 3 < _; omega) (hn0 _ (by show w.heap.size + 3 < _; omega)))).trans h1, (World.cell?_of_block (hb _ (by show w.heap.size < _; omega) (hn0 _ (by show w.heap.size < _; omega)))).trans h2, (World.cell?_of_block (hb _ (by show Bx < _; omega) hnBx)).trans h3, (World.cell?_of_block (hb _ (by show Bx < _; omega) hnBx)).trans h4⟩
      have HFZ : Hid (∀ (V V' : World), Below X.heap.size X V → V.grownBy V' (Value.slice vA vn vc).ownBlock → V'.frozen? ⟨w.heap.size + 3, k, none⟩ = false) := fun V V' hV hgr => by
        have h1 : Blk V' (w.heap.size + 3) 103 ws'.toArray := (HNR.out V V' hgr _ (by have := hV.size; omega) (hn0 _ (by omega))).trans (HG.out.below hV).blk
        exact h1.frozen k
      have j1 := p1.one
      have j2 := p0.cell 0; have j3 := p0.cell 1; have j4 := p0.cell 2; have j5 := hbx.cell 0; have j6 := hbx.cell 1
      simp only [List.getElem?_toArray, List.getElem?_cons_zero, List.getElem?_cons_succ] at j2 j3 j4 j5 j6
      have hn3 : 1 ≤ 9 - 1 - 1 := by omega
      have i1 : (0 : Int) ≤ (k : Int) := by omega
      have i2 : (k : Int) < 17 := by omega
      have HP0 := Lib.hid p0
      have HP1 := Lib.hid p1
      have HP2 := Lib.hid p2
      have HFX := Lib.hid hfX
      have HST := Lib.hid hst
      clear hsv hk hg' p0 p1 p2 hfX hst
      gi_wp2_with fail
      refine ⟨trivial, (CallsIn.inRound l' (callsIn_wide.2 (HSLK.out _ hbX))).mono ?_⟩
      rintro e w8 ⟨rfl, hX8⟩
      clear j1 j2 j3 j4 j5 j6
      gi_wp2_with fail
      have hS : (fun U : World => U.cell? ⟨w.heap.size + 3, k, none⟩ = some (.slice vA vn vc) ∧ U.cell? ⟨w.heap.size, 2, none⟩ = some (.slice (some ⟨b1, off1, none⟩) N cap) ∧ U.cell? ⟨Bx, 0, none⟩ = some (.int .i64 (i : Int)) ∧ U.cell? ⟨Bx, 1, none⟩ = some (.int .i64 (y : Int))) w8.drew := HSS.out _ hX8.drew
      refine wpIn_mono (region_HG (Q := NoPanic _) (S := (fun U : World => U.cell? ⟨w.heap.size + 3, k, none⟩ = some (.slice vA vn vc) ∧ U.cell? ⟨w.heap.size, 2, none⟩ = some (.slice (some ⟨b1, off1, none⟩) N cap) ∧ U.cell? ⟨Bx, 0, none⟩ = some (.int .i64 (i : Int)) ∧ U.cell? ⟨Bx, 1, none⟩ = some (.int .i64 (y : Int)))) (m := 11) (by kernel_rfl) ?_) NoPanic.imp
      refine anyHG_take (i := 0) (d := 24) (v := .int .i64 (k : Int)) (by kernel_rfl) rfl (by kernel_rfl) (by kernel_rfl) (by kernel_rfl) rfl (by kernel_rfl) (fun _ _ _ h => h) ⟨Or.inl ⟨by rfl, fun w hS => by obtain ⟨h0, h1, h2, h3⟩ := hS; go_simp⟩, fun _ => rfl⟩ hS ?_
      simp only [List.setIfInBounds_toArray, List.set_cons_zero, List.set_cons_succ]
      refine anyHG_take (i := 1) (d := 25) (v := .int .i64 (k : Int)) (by kernel_rfl) rfl (by kernel_rfl) (by kernel_rfl) (by kernel_rfl) rfl (by kernel_rfl) (fun _ _ _ h => h) ⟨Or.inl ⟨by rfl, fun w hS => by obtain ⟨h0, h1, h2, h3⟩ := hS; go_simp⟩, fun _ => rfl⟩ hS ?_
      simp only [List.setIfInBounds_toArray, List.set_cons_zero, List.set_cons_succ]
      refine anyHG_take (i := 2) (d := 26) (v := .pointer (some ⟨w.heap.size + 3, k, none⟩)) (by kernel_rfl) rfl (by kernel_rfl) (by kernel_rfl) (by kernel_rfl) rfl (by kernel_rfl) (fun _ _ _ h => h) ⟨Or.inl ⟨by rfl, fun w hS => by obtain ⟨h0, h1, h2, h3⟩ := hS; go_simp⟩, fun _ => rfl⟩ hS ?_
      simp only [List.setIfInBounds_toArray, List.set_cons_zero, List.set_cons_succ]
      refine anyHG_take (i := 3) (d := 27) (v := .slice vA vn vc) (by kernel_rfl) rfl (by kernel_rfl) (by kernel_rfl) (by kernel_rfl) rfl (by kernel_rfl) (fun _ _ _ h => h) ⟨Or.inl ⟨by rfl, fun w hS => by obtain ⟨h0, h1, h2, h3⟩ := hS; go_simp⟩, fun _ => rfl⟩ hS ?_
      simp only [List.setIfInBounds_toArray, List.set_cons_zero, List.set_cons_succ]
      refine anyHG_take (i := 4) (d := 28) (v := .pointer (some ⟨w.heap.size, 2, none⟩)) (by kernel_rfl) rfl (by kernel_rfl) (by kernel_rfl) (by kernel_rfl) rfl (by kernel_rfl) (fun _ _ _ h => h) ⟨Or.inl ⟨by rfl, fun w hS => by obtain ⟨h0, h1, h2, h3⟩ := hS; go_simp⟩, fun _ => rfl⟩ hS ?_
      simp only [List.setIfInBounds_toArray, List.set_cons_zero, List.set_cons_succ]
      refine anyHG_take (i := 5) (d := 29) (v := .slice (some ⟨b1, off1, none⟩) N cap) (by kernel_rfl) rfl (by kernel_rfl) (by kernel_rfl) (by kernel_rfl) rfl (by kernel_rfl) (fun _ _ _ h => h) ⟨Or.inl ⟨by rfl, fun w hS => by obtain ⟨h0, h1, h2, h3⟩ := hS; go_simp⟩, fun _ => rfl⟩ hS ?_
      simp only [List.setIfInBounds_toArray, List.set_cons_zero, List.set_cons_succ]
      refine anyHG_take (i := 6) (d := 30) (v := .agg #[.int .i64 (i : Int), .int .i64 (y : Int)]) (by kernel_rfl) rfl (by kernel_rfl) (by kernel_rfl) (by kernel_rfl) rfl (by kernel_rfl) (fun _ _ _ h => h) ⟨Or.inl ⟨by rfl, fun w hS => by obtain ⟨h0, h1, h2, h3⟩ := hS; go_simp⟩, fun _ => rfl⟩ hS ?_
      simp only [List.setIfInBounds_toArray, List.set_cons_zero, List.set_cons_succ]
      refine anyHG_one (i := 7) (by kernel_rfl) rfl (by kernel_rfl) (by rfl) ?_
      gi_wp2_with fail
      refine ⟨trivial, (CallsIn.inRound l' (callsIn_wide.2 (HCELL.out _ hX8.drew))).mono ?_⟩
      rintro e w9 ⟨u, rfl, hu, hB9⟩
      replace hB9 := below_undrew hB9
      obtain ⟨uA, uc, rfl, _⟩ := id hu
      have hX9 := below_in hX8 hB9
      have hS9 := HSS.out _ hX9
      clear hS
      have hS : (fun U : World => U.cell? ⟨w.heap.size + 3, k, none⟩ = some (.slice vA vn vc) ∧ U.cell? ⟨w.heap.size, 2, none⟩ = some (.slice (some ⟨b1, off1, none⟩) N cap) ∧ U.cell? ⟨Bx, 0, none⟩ = some (.int .i64 (i : Int)) ∧ U.cell? ⟨Bx, 1, none⟩ = some (.int .i64 (y : Int))) w9 := hS9
      clear hS9
      gi_wp2
      try (refine ⟨.inr hS, ?_⟩)
      refine anyHG_one (i := 8) (by kernel_rfl) rfl (by kernel_rfl) (by rfl) ?_
      have hBa : Below w9.heap.size w9 (w9.alloc (.cells #[.slice uA (cellI css ((i : Int), (y : Int))).length uc] 28)) := below_one w9 _
      have bE : Blk (w9.alloc (.cells #[.slice uA (cellI css ((i : Int), (y : Int))).length uc] 28)) w9.heap.size 28 #[.slice uA (cellI css ((i : Int), (y : Int))).length uc] := Blk.new w9 _ _
      have hXa := below_in hX9 hBa
      obtain ⟨wa, hwa⟩ : ∃ wa, (w9.alloc (.cells #[.slice uA (cellI css ((i : Int), (y : Int))).length uc] 28)) = wa := ⟨_, rfl⟩
      rw [hwa] at hBa bE hXa
      clear hS
      have hS : (fun U : World => U.cell? ⟨w.heap.size + 3, k, none⟩ = some (.slice vA vn vc) ∧ U.cell? ⟨w.heap.size, 2, none⟩ = some (.slice (some ⟨b1, off1, none⟩) N cap) ∧ U.cell? ⟨Bx, 0, none⟩ = some (.int .i64 (i : Int)) ∧ U.cell? ⟨Bx, 1, none⟩ = some (.int .i64 (y : Int))) wa := HSS.out _ hXa
      gi_wp2
      try rw [hwa]
      try (refine ⟨.inr hS, ?_⟩)
      refine anyHG_one (i := 9) (by kernel_rfl) rfl (by kernel_rfl) (by rfl) ?_
      refine opIn_pushM (base := w.heap.size + 4) (Q := (· < B)) (v := .slice vA vn vc) wa _ _ rfl Tryz.underlying49 _ rfl (HROW.out _ hXa) w9.heap.size _ _ _ rfl bE (HUU.out _ _ _ hu hX9 hBa) HLEN.out (HBS.out _ hXa.size) ?_
      intro v' wb hrow hgr hor
      obtain ⟨vA2, vn2, vc2, rfl⟩ := RowG.form hrow
      clear hS
      have hS : (fun U : World => U.cell? ⟨w.heap.size + 3, k, none⟩ = some (.slice vA vn vc) ∧ U.cell? ⟨w.heap.size, 2, none⟩ = some (.slice (some ⟨b1, off1, none⟩) N cap) ∧ U.cell? ⟨Bx, 0, none⟩ = some (.int .i64 (i : Int)) ∧ U.cell? ⟨Bx, 1, none⟩ = some (.int .i64 (y : Int))) wb := HSB.out _ _ hXa hgr
      gi_wp2_with fail
      try (refine ⟨.inr hS, ?_⟩)
      refine anyHG_take (i := 10) (d := 34) (v := .pointer (some ⟨w.heap.size + 3, k, none⟩)) (by kernel_rfl) rfl (by kernel_rfl) (by kernel_rfl) (by kernel_rfl) rfl (by kernel_rfl) (fun _ _ _ h => h) ⟨Or.inl ⟨by rfl, fun w hS => by obtain ⟨h0, h1, h2, h3⟩ := hS; go_simp⟩, fun _ => rfl⟩ hS ?_
      simp only [List.setIfInBounds_toArray, List.set_cons_zero, List.set_cons_succ]
      refine anyHG_one (i := 11) (by kernel_rfl) rfl (by kernel_rfl) (by rfl) ?_
      have f0 := HFZ.out _ _ hXa hgr
      obtain ⟨h0, h1, h2, h3⟩ := hS
      gi_wp2
      try (refine ⟨.inl rfl, ?_⟩)
      refine anyHG_done (by kernel_rfl) ?_ _
      refine NoPanic.normal ?_
      have hwbs := hgr.size
      have hwas := hXa.size
      have hblk : ∀ b, b < X.heap.size → b ≠ w.heap.size + 3 → ¬ ownsB ws' b → (wb.setCell ⟨w.heap.size + 3, k, none⟩ (.slice vA2 vn2 vc2)).heap[b]? = X.heap[b]? := fun b q1 q2 q3 =>
        ((Below.heap_setCell wb _ _ b q2).trans (HNR.out wa wb hgr b (by omega) q3)).trans (hXa.block b q1)
      have hsz2 : X.heap.size ≤ (wb.setCell ⟨w.heap.size + 3, k, none⟩ (.slice vA2 vn2 vc2)).heap.size := by simp; omega
      obtain ⟨hGf, hFf⟩ := Gat.push (HG.out.below hXa) (by omega) (by omega) (z := ((i : Int), (y : Int))) hk17 HK.out hrow (by rw [HSV.out]; exact hgr) (by rw [HSV.out]; exact hor)
      have hFf2 := hFf.later hwas
      have hBf : Below w.heap.size w (wb.setCell ⟨w.heap.size + 3, k, none⟩ (.slice vA2 vn2 vc2)) := (below_grown (below_in hbX hXa) hgr (by omega) (fun b e => by have := (HOG.out b e).2; omega)).setCell (by show w.heap.size ≤ w.heap.size + 3; omega) _
      have hold : ∀ b, ownsB ws' b → b < U.heap.size ∨ w7.heap.size ≤ b := fun b e => (HFX.out b e).imp (hown b) id
      have hsi : ∀ n, w.heap.size + 4 ≤ n → SinceO n (ownsB ws') X (wb.setCell ⟨w.heap.size + 3, k, none⟩ (.slice vA2 vn2 vc2)) := fun n hn => ⟨hsz2, fun b q1 q2 q3 => hblk b q2 (by omega) q3⟩
      have P0 := (hblk _ HP0.out.lt (by omega) (hn0 _ (by omega))).trans HP0.out
      have P1 := (hblk _ HP1.out.lt (by omega) (hn0 _ (by omega))).trans HP1.out
      have P2 := (hblk _ HP2.out.lt (by omega) (hn0 _ (by omega))).trans HP2.out
      rw [downC_snoc] at hGf
      generalize wb.setCell ⟨w.heap.size + 3, k, none⟩ (.slice vA2 vn2 vc2) = wf at *
      exact ⟨ownsB (ws'.set k (.slice vA2 vn2 vc2)), hFf2, hsi _ (by omega), ⟨hsz2, fun b q1 q2 => hblk b (by omega) (by omega) (fun e => by have := hold b e; omega)⟩, ⟨⟨_, hGf, rfl⟩, HFX.out.trans hsz hFf2, hBf, P0, P1, P2, HST.out.trans HFX.out (hsi _ (Nat.le_refl _))⟩⟩
    case done =>
      rintro D xs oX X hD _ rfl ⟨⟨ws', hg', rfl⟩, hfX, hbX, p0, p1, p2, hst⟩ hKD _
      rw [HZ.out, HN1.out] at hg'
      have hLe2 := hLe.moreT (Y := X) ((SinceO.below hB7).trans_ hst) (Nat.le_refl _) hro (D := D) (by omega) (by omega) hKD
      clear hst hfX hG7 r0 r1 r2 hgo
      gi_wp2_with fail
      have hz := fun (y6 y13 y14 y15 y16 y17 y18 y35 : Value) hr => hK (m - 1) [.int .i64 ((i : Int) + 1), y6, y13, y14, y15, y16, y17, y18, y35] (D :: Ds) X (by omega) hr
      simp only [sets, List.setIfInBounds_toArray, List.set_cons_zero, List.set_cons_succ] at hz
      refine hz _ _ _ _ _ _ _ _ ⟨i + 1, _, _, _, _, _, _, _, _, ws', congrArg (fun x : Int => Value.int .i64 x :: _) (by push_cast; rfl), by omega, hg', hbX, p0, p1, p2, hLe2⟩
  · obtain rfl : i = N := by omega
    have hdec : decide ((i : Int) < (i : Int)) = false := by simp
    have htk : (spanL 0 p).take i = spanL 0 p := List.take_of_length_le (by rw [HPP.out, spanL_len]; exact Nat.le_refl _)
    rw [htk] at hG
    have HWL := Lib.hid hG.len
    obtain ⟨a0, n0, m0, e0⟩ := RowG.form (hG.row 0 (by omega))
    have d0 := slot_cell hG (n := 0) (by omega)
    rw [e0] at d0
    have x0 := q2.cell 0
    have z0 := q2.frozen 0
    obtain ⟨a1, n1, m1, e1⟩ := RowG.form (hG.row 1 (by omega))
    have d1 := slot_cell hG (n := 1) (by omega)
    rw [e1] at d1
    have x1 := q2.cell 1
    have z1 := q2.frozen 1
    obtain ⟨a2, n2, m2, e2⟩ := RowG.form (hG.row 2 (by omega))
    have d2 := slot_cell hG (n := 2) (by omega)
    rw [e2] at d2
    have x2 := q2.cell 2
    have z2 := q2.frozen 2
    obtain ⟨a3, n3, m3, e3⟩ := RowG.form (hG.row 3 (by omega))
    have d3 := slot_cell hG (n := 3) (by omega)
    rw [e3] at d3
    have x3 := q2.cell 3
    have z3 := q2.frozen 3
    obtain ⟨a4, n4, m4, e4⟩ := RowG.form (hG.row 4 (by omega))
    have d4 := slot_cell hG (n := 4) (by omega)
    rw [e4] at d4
    have x4 := q2.cell 4
    have z4 := q2.frozen 4
    obtain ⟨a5, n5, m5, e5⟩ := RowG.form (hG.row 5 (by omega))
    have d5 := slot_cell hG (n := 5) (by omega)
    rw [e5] at d5
    have x5 := q2.cell 5
    have z5 := q2.frozen 5
    obtain ⟨a6, n6, m6, e6⟩ := RowG.form (hG.row 6 (by omega))
    have d6 := slot_cell hG (n := 6) (by omega)
    rw [e6] at d6
    have x6 := q2.cell 6
    have z6 := q2.frozen 6
    obtain ⟨a7, n7, m7, e7⟩ := RowG.form (hG.row 7 (by omega))
    have d7 := slot_cell hG (n := 7) (by omega)
    rw [e7] at d7
    have x7 := q2.cell 7
    have z7 := q2.frozen 7
    obtain ⟨a8, n8, m8, e8⟩ := RowG.form (hG.row 8 (by omega))
    have d8 := slot_cell hG (n := 8) (by omega)
    rw [e8] at d8
    have x8 := q2.cell 8
    have z8 := q2.frozen 8
    obtain ⟨a9, n9, m9, e9⟩ := RowG.form (hG.row 9 (by omega))
    have d9 := slot_cell hG (n := 9) (by omega)
    rw [e9] at d9
    have x9 := q2.cell 9
    have z9 := q2.frozen 9
    obtain ⟨a10, n10, m10, e10⟩ := RowG.form (hG.row 10 (by omega))
    have d10 := slot_cell hG (n := 10) (by omega)
    rw [e10] at d10
    have x10 := q2.cell 10
    have z10 := q2.frozen 10
    obtain ⟨a11, n11, m11, e11⟩ := RowG.form (hG.row 11 (by omega))
    have d11 := slot_cell hG (n := 11) (by omega)
    rw [e11] at d11
    have x11 := q2.cell 11
    have z11 := q2.frozen 11
    obtain ⟨a12, n12, m12, e12⟩ := RowG.form (hG.row 12 (by omega))
    have d12 := slot_cell hG (n := 12) (by omega)
    rw [e12] at d12
    have x12 := q2.cell 12
    have z12 := q2.frozen 12
    obtain ⟨a13, n13, m13, e13⟩ := RowG.form (hG.row 13 (by omega))
    have d13 := slot_cell hG (n := 13) (by omega)
    rw [e13] at d13
    have x13 := q2.cell 13
    have z13 := q2.frozen 13
    obtain ⟨a14, n14, m14, e14⟩ := RowG.form (hG.row 14 (by omega))
    have d14 := slot_cell hG (n := 14) (by omega)
    rw [e14] at d14
    have x14 := q2.cell 14
    have z14 := q2.frozen 14
    obtain ⟨a15, n15, m15, e15⟩ := RowG.form (hG.row 15 (by omega))
    have d15 := slot_cell hG (n := 15) (by omega)
    rw [e15] at d15
    have x15 := q2.cell 15
    have z15 := q2.frozen 15
    obtain ⟨a16, n16, m16, e16⟩ := RowG.form (hG.row 16 (by omega))
    have d16 := slot_cell hG (n := 16) (by omega)
    rw [e16] at d16
    have x16 := q2.cell 16
    have z16 := q2.frozen 16
    simp only [List.getElem?_toArray, List.getElem?_cons_zero, List.getElem?_cons_succ] at x0 x1 x2 x3 x4 x5 x6 x7 x8 x9 x10 x11 x12 x13 x14 x15 x16
    have hlit : ws = [.slice a0 n0 m0, .slice a1 n1 m1, .slice a2 n2 m2, .slice a3 n3 m3, .slice a4 n4 m4, .slice a5 n5 m5, .slice a6 n6 m6, .slice a7 n7 m7, .slice a8 n8 m8, .slice a9 n9 m9, .slice a10 n10 m10, .slice a11 n11 m11, .slice a12 n12 m12, .slice a13 n13 m13, .slice a14 n14 m14, .slice a15 n15 m15, .slice a16 n16 m16] := by
      have h := list17 ws HWL.out
      rw [show (List.range 17).map (slotV ws) = [slotV ws 0, slotV ws 1, slotV ws 2, slotV ws 3, slotV ws 4, slotV ws 5, slotV ws 6, slotV ws 7, slotV ws 8, slotV ws 9, slotV ws 10, slotV ws 11, slotV ws 12, slotV ws 13, slotV ws 14, slotV ws 15, slotV ws 16] from rfl, e0, e1, e2, e3, e4, e5, e6, e7, e8, e9, e10, e11, e12, e13, e14, e15, e16] at h
      exact h
    have hgs : ∀ (V : World) (j : Nat) (u : Value), V.grownBy (V.setCell ⟨w.heap.size + 2, j, none⟩ u) (some (w.heap.size + 2)) := fun V j u => ⟨rfl, rfl, rfl, by simp, fun k _ hk => Below.heap_setCell V _ _ k (fun e => hk (by rw [e]))⟩
    have hgrow : U.grownBy (((((((((((((((((U.setCell ⟨w.heap.size + 2, 0, none⟩ (.slice a0 n0 m0)).setCell ⟨w.heap.size + 2, 1, none⟩ (.slice a1 n1 m1)).setCell ⟨w.heap.size + 2, 2, none⟩ (.slice a2 n2 m2)).setCell ⟨w.heap.size + 2, 3, none⟩ (.slice a3 n3 m3)).setCell ⟨w.heap.size + 2, 4, none⟩ (.slice a4 n4 m4)).setCell ⟨w.heap.size + 2, 5, none⟩ (.slice a5 n5 m5)).setCell ⟨w.heap.size + 2, 6, none⟩ (.slice a6 n6 m6)).setCell ⟨w.heap.size + 2, 7, none⟩ (.slice a7 n7 m7)).setCell ⟨w.heap.size + 2, 8, none⟩ (.slice a8 n8 m8)).setCell ⟨w.heap.size + 2, 9, none⟩ (.slice a9 n9 m9)).setCell ⟨w.heap.size + 2, 10, none⟩ (.slice a10 n10 m10)).setCell ⟨w.heap.size + 2, 11, none⟩ (.slice a11 n11 m11)).setCell ⟨w.heap.size + 2, 12, none⟩ (.slice a12 n12 m12)).setCell ⟨w.heap.size + 2, 13, none⟩ (.slice a13 n13 m13)).setCell ⟨w.heap.size + 2, 14, none⟩ (.slice a14 n14 m14)).setCell ⟨w.heap.size + 2, 15, none⟩ (.slice a15 n15 m15)).setCell ⟨w.heap.size + 2, 16, none⟩ (.slice a16 n16 m16)) (some (w.heap.size + 2)) := (World.grownBy.trans (World.grownBy.trans (World.grownBy.trans (World.grownBy.trans (World.grownBy.trans (World.grownBy.trans (World.grownBy.trans (World.grownBy.trans (World.grownBy.trans (World.grownBy.trans (World.grownBy.trans (World.grownBy.trans (World.grownBy.trans (World.grownBy.trans (World.grownBy.trans (World.grownBy.trans (hgs _ 0 _) (hgs _ 1 _)) (hgs _ 2 _)) (hgs _ 3 _)) (hgs _ 4 _)) (hgs _ 5 _)) (hgs _ 6 _)) (hgs _ 7 _)) (hgs _ 8 _)) (hgs _ 9 _)) (hgs _ 10 _)) (hgs _ 11 _)) (hgs _ 12 _)) (hgs _ 13 _)) (hgs _ 14 _)) (hgs _ 15 _)) (hgs _ 16 _))
    have hblk := (((((((((((((((((q2.set_ 0 (.slice a0 n0 m0)).set_ 1 (.slice a1 n1 m1)).set_ 2 (.slice a2 n2 m2)).set_ 3 (.slice a3 n3 m3)).set_ 4 (.slice a4 n4 m4)).set_ 5 (.slice a5 n5 m5)).set_ 6 (.slice a6 n6 m6)).set_ 7 (.slice a7 n7 m7)).set_ 8 (.slice a8 n8 m8)).set_ 9 (.slice a9 n9 m9)).set_ 10 (.slice a10 n10 m10)).set_ 11 (.slice a11 n11 m11)).set_ 12 (.slice a12 n12 m12)).set_ 13 (.slice a13 n13 m13)).set_ 14 (.slice a14 n14 m14)).set_ 15 (.slice a15 n15 m15)).set_ 16 (.slice a16 n16 m16))
    simp only [List.setIfInBounds_toArray, List.set_cons_zero, List.set_cons_succ] at hblk
    gi_wp2
    generalize (((((((((((((((((U.setCell ⟨w.heap.size + 2, 0, none⟩ (.slice a0 n0 m0)).setCell ⟨w.heap.size + 2, 1, none⟩ (.slice a1 n1 m1)).setCell ⟨w.heap.size + 2, 2, none⟩ (.slice a2 n2 m2)).setCell ⟨w.heap.size + 2, 3, none⟩ (.slice a3 n3 m3)).setCell ⟨w.heap.size + 2, 4, none⟩ (.slice a4 n4 m4)).setCell ⟨w.heap.size + 2, 5, none⟩ (.slice a5 n5 m5)).setCell ⟨w.heap.size + 2, 6, none⟩ (.slice a6 n6 m6)).setCell ⟨w.heap.size + 2, 7, none⟩ (.slice a7 n7 m7)).setCell ⟨w.heap.size + 2, 8, none⟩ (.slice a8 n8 m8)).setCell ⟨w.heap.size + 2, 9, none⟩ (.slice a9 n9 m9)).setCell ⟨w.heap.size + 2, 10, none⟩ (.slice a10 n10 m10)).setCell ⟨w.heap.size + 2, 11, none⟩ (.slice a11 n11 m11)).setCell ⟨w.heap.size + 2, 12, none⟩ (.slice a12 n12 m12)).setCell ⟨w.heap.size + 2, 13, none⟩ (.slice a13 n13 m13)).setCell ⟨w.heap.size + 2, 14, none⟩ (.slice a14 n14 m14)).setCell ⟨w.heap.size + 2, 15, none⟩ (.slice a15 n15 m15)).setCell ⟨w.heap.size + 2, 16, none⟩ (.slice a16 n16 m16)) = Uf at *
    have hn0 : ∀ b, b < w.heap.size + 4 → ¬ ownsB ws b := fun b hb e => by have := hG.base_le e; omega
    have hGf : Gat B (w.heap.size + 4) p css (w.heap.size + 3) (flatC p (spanL 0 p)) Uf ws := hG.kept hgrow (fun r e => by injection e with e; subst e; exact ⟨by omega, hn0 _ (by omega), by omega⟩)
    have hBf : Below w.heap.size w Uf := below_grown hBU hgrow (by omega) (fun b e => by injection e with e; omega)
    have hLf : Left (w.heap.size + 4) Uf Ds := hLe.sinceT (B := w.heap.size + 4) (o := fun _ => False) ⟨hgrow.size, fun b h1 h2 _ => hgrow.block b h2 (fun e => by injection e with e; omega)⟩ (Nat.le_refl _) (rowO_none _)
    refine leaves_farT (B := w.heap.size + 4) (I := fun (_ : Unit) o X => Gat B (w.heap.size + 4) p css (w.heap.size + 3) (flatC p (spanL 0 p)) X ws ∧ o = ownsB ws ∧ Below w.heap.size w X ∧ Blk X (w.heap.size + 2) 103 #[.slice a0 n0 m0, .slice a1 n1 m1, .slice a2 n2 m2, .slice a3 n3 m3, .slice a4 n4 m4, .slice a5 n5 m5, .slice a6 n6 m6, .slice a7 n7 m7, .slice a8 n8 m8, .slice a9 n9 m9, .slice a10 n10 m10, .slice a11 n11 m11, .slice a12 n12 m12, .slice a13 n13 m13, .slice a14 n14 m14, .slice a15 n15 m15, .slice a16 n16 m16]) ?_ () (ownsB ws) (fun X h => h.1.rowO) Ds _ hLf ⟨hGf, rfl, hBf, hblk⟩ ?_
    · rintro s o X Y row ⟨h1, rfl, h3, h4⟩ hg hr
      exact ⟨h1.kept hg (fun r e => ⟨by have := (hr r e).1; omega, (hr r e).2, by have := (hr r e).1; omega⟩), rfl, h3.grown hg h3.size (fun r e => by have := (hr r e).1; omega), h4.grown hg (fun e => by have := (hr _ e.symm).1; omega)⟩
    · rintro W' ⟨h1, _, h3, h4⟩
      refine ⟨_, results_cell_row (ty := 103) rfl _ W' (w.heap.size + 2) 103 #[.slice a0 n0 m0, .slice a1 n1 m1, .slice a2 n2 m2, .slice a3 n3 m3, .slice a4 n4 m4, .slice a5 n5 m5, .slice a6 n6 m6, .slice a7 n7 m7, .slice a8 n8 m8, .slice a9 n9 m9, .slice a10 n10 m10, .slice a11 n11 m11, .slice a12 n12 m12, .slice a13 n13 m13, .slice a14 n14 m14, .slice a15 n15 m15, .slice a16 n16 m16] (0, 0) _ rfl h4 Tryz.underlying103 rfl (by kernel_rfl), ?_⟩
      exact ⟨ws, by rw [hlit], HWL.out, fun n hn => by
        obtain ⟨us, q1, q2, q3⟩ := h1.row n hn
        exact ⟨us, ⟨q1.1, q1.2.imp id fun ⟨g, cap, cur, e, h2, rest⟩ => ⟨g, cap, cur, e, by omega, rest⟩⟩, q2, q3⟩, h3⟩
end Go.Proofs.YtcgnhfiadeceiaaGreatDoor.T

namespace Go.Proofs.YtcgnhfiadeceiaaGreatDoor.E
open Go.RowKit Go.Shelf Go.Proofs.YtcgnhfiadeceiaaGreatDoor.C
set_option linter.unusedSimpArgs false
set_option linter.unusedVariables false

theorem xors_next (z : List UInt8) (ls : List (List UInt8)) {k : Nat} (hk : k < ls.length) : xors z (ls.take (k + 1)) = xorB (xors z (ls.take k)) (ls[k]?.getD []) := by
  unfold xors
  rw [List.take_add_one, List.foldl_append, List.getElem?_eq_getElem hk]
  rfl
theorem uponL_next (n : Nat) (css : List (List (List UInt8))) (l : List (Int × Int)) {k : Nat} (hk : k < l.length) : uponL n css (l.take (k + 1)) = xorB (uponL n css (l.take k)) (cellI css l[k]) := by
  unfold uponL
  rw [List.map_take, xors_next _ _ (by rw [List.length_map]; exact hk), List.map_take, List.getElem?_map, List.getElem?_eq_getElem hk]
  rfl
set_option maxHeartbeats 400000 in
theorem nought6_fresh (n : Nat) (hn : n ≤ 1000) (w : World) : Calls Tryz.prog 24 #[.int .i64 (n : Int)] w fun e w' => ∃ u, e = .returned u ∧ Fresh w.heap.size w' u (List.replicate n 0) ∧ Below w.heap.size w w' := by
  obtain ⟨i0, hi, hz0, hz1, hz2⟩ := info_parts Tryz.infoByte
  have hmk := fun W : World => run_make (P := Tryz.prog) W 28 5 i0 (.int .u8 0) Tryz.underlying28 hi hz0 .i64 .i64 (n : Int) (n : Int) (by omega) (by omega) (by rw [hz2]; omega) (by omega)
  simp only [hz1, Nat.mul_one, Int.toNat_natCast] at hmk
  have hR := Row.made w n
  have hBz := below_one w (.cells (madeCells #[.int .u8 0] n) 5)
  go_enter Tryz.func24, Tryz.ntmps24
  go_wp2
  go_ret
  exact ⟨_, rfl, Row.fresh hR (Nat.le_refl _) (by simp), hBz⟩
set_option maxRecDepth 100000 in
set_option maxHeartbeats 2000000 in
theorem upon6_any {B : Nat} (vs vl : Value) (css : List (List (List UInt8))) (l : List (Int × Int)) (R n : Nat) (w : World) (hB : B ≤ w.heap.size) (hC : Cols B w vs css) (hl : ReadA w vl l) (hg : Grid R n css) (hin : inL R css.length l) (hn : n ≤ 1000) (hll : l.length ≤ 1000) (hcl : css.length ≤ 1000) (hR : R ≤ 1000) :
    Calls Tryz.prog 43 #[vs, vl, .int .i64 (n : Int)] w fun e w' => ∃ u, e = .returned u ∧ Fresh w.heap.size w' u (uponL n css l) ∧ Below w.heap.size w w' := by
  obtain ⟨A, cap, rfl, _, _⟩ := id hC
  obtain ⟨Al, capl, rfl, hRd⟩ := hl
  have HR1 := Lib.hid hRd
  have HCC := Lib.hid hC
  have HG := Lib.hid hg
  have HIN := Lib.hid hin
  obtain ⟨N, hN⟩ : ∃ N, l.length = N := ⟨_, rfl⟩
  obtain ⟨C, hCn⟩ : ∃ C, css.length = C := ⟨_, rfl⟩
  have HN := Lib.hid hN
  have HCN := Lib.hid hCn
  rw [hN] at hll
  rw [hCn] at hcl
  rw [hN, hCn]
  have HNO := Lib.hid (fun (U : World) => nought6_fresh n hn U)
  have HNX : Hid (∀ k, k < N → ∀ hk : k < l.length, uponL n css (l.take (k + 1)) = xorB (uponL n css (l.take k)) (cellI css l[k])) := fun k _ hk => uponL_next n css l hk
  have HE : Hid (uponL n css (l.take N) = uponL n css l) := by unfold Hid; rw [← hN, List.take_length]
  have HLN : Hid (∀ k, (uponL n css (l.take k)).length = n) := fun k => uponL_len n css _
  clear hN hCn hC hRd hg hin
  go_enter Tryz.func43, Tryz.ntmps43
  go_wp2_with (go_at_call 24; refine (HNO.out _).mono ?_; rintro e w1 ⟨u0, rfl, hu0, hB1⟩)
  go_loopw [7, 8] (fun v i wr => ∃ j : Nat, j ≤ N ∧ i = .int .i64 j ∧ Fresh w.heap.size wr v (uponL n css (l.take j)) ∧ Below w.heap.size w wr) (fun _ i _ => N - (intOf i).toNat)
  case atStart => exact ⟨0, by omega, rfl, hu0, hB1⟩
  case round =>
    clear hu0 hB1
    obtain ⟨j, hj, rfl, hu, hBr⟩ := hrel
    by_cases hlt : j < N
    · have hdec : decide ((j : Int) < (N : Int)) = true := by simp; omega
      have hjs : j < l.length := by rw [HN.out]; exact hlt
      have hnx := HNX.out j hlt hjs
      obtain ⟨g1, rfl, hg1, x0, x1⟩ := HR1.out j hjs
      obtain ⟨hz1, hz2⟩ := HIN.out l[j] (List.getElem_mem hjs)
      have hlen := HLN.out j
      clear HR1 HIN HNX
      generalize l[j] = z at *
      obtain ⟨zx, zy⟩ := z
      simp only at hz1 hz2 x0 x1
      rw [HCN.out] at hz1
      obtain ⟨X, rfl⟩ : ∃ X : Nat, zx = (X : Int) := ⟨zx.toNat, by omega⟩
      obtain ⟨Y, rfl⟩ : ∃ Y : Nat, zy = (Y : Int) := ⟨zy.toNat, by omega⟩
      have hX : X < C := by omega
      have hY : Y < R := by omega
      obtain ⟨b1, off1, cq1, e1, hcq, hb1, hrow1⟩ := HCC.out.at_ (by rw [HCN.out]; omega)
      rw [HCN.out] at e1 hcq
      injection e1 with e1 _ e1c
      subst e1 e1c
      obtain ⟨u1, hc1, hm1⟩ := hrow1 X (by rw [HCN.out]; exact hX)
      obtain ⟨hcr, hce⟩ := HG.out X (by rw [HCN.out]; exact hX)
      obtain ⟨A3, cap3, rfl, _, _⟩ := id hm1
      obtain ⟨b2, off3, rfl, hb2, hrow3⟩ := many_at hm1 (by omega)
      obtain ⟨Aa, ca, hc3, hby⟩ := hrow3 Y (by omega)
      have hcl2 := hce Y hY
      rw [hcr] at hc1
      rw [hcl2] at hc3 hby
      have hcI : cellI css ((X : Int), (Y : Int)) = (css[X]?.getD [])[Y]?.getD [] := rfl
      rw [hcI] at hnx
      have HJX := Lib.hid hnx
      clear hnx
      have x0' := (hBr.cell (p := ⟨g1, j * 2, none⟩) hg1).trans x0
      have x1' := (hBr.cell (p := ⟨g1, j * 2 + 1, none⟩) hg1).trans x1
      have y0' := (hBr.cell (p := ⟨b1, off1 + X, none⟩) (Nat.lt_of_lt_of_le hb1 hB)).trans hc1
      have y1' := (hBr.cell (p := ⟨b2, off3 + Y, none⟩) (Nat.lt_of_lt_of_le hb2 hB)).trans hc3
      have HP := Lib.hid (fun (U : World) (v : Value) (hU : Below w.heap.size w U) (hv : Bytes U.heap.size U v (uponL n css (l.take j))) => rput_any v (.slice Aa n ca) (uponL n css (l.take j)) ((css[X]?.getD [])[Y]?.getD []) U hv ((hby.below (hU.mono hB)).more (Nat.le_trans hB hU.size)) (by omega) (by omega))
      clear hcI hce hrow1 hrow3 hm1 hby x0 x1 hc1 hc3
      generalize (css[X]?.getD [])[Y]?.getD [] = xy at *
      generalize uponL n css (l.take j) = cur at *
      have i1 : (0 : Int) ≤ (j : Int) := by omega
      have i2 : (j : Int) < (N : Int) := by omega
      have i3 : (0 : Int) ≤ (X : Int) := by omega
      have i4 : (X : Int) < (C : Int) := by omega
      have i5 : (0 : Int) ≤ (Y : Int) := by omega
      have i6 : (Y : Int) < (R : Int) := by omega
      have HHU := Lib.hid hu.bytes
      have hBz := hBr.size
      clear hlen hcl2 hcr hu
      go_wp2
      go_region_held3 (fun U => U.cell? ⟨g1, j * 2, none⟩ = some (.int .i64 (X : Int)) ∧ U.cell? ⟨g1, j * 2 + 1, none⟩ = some (.int .i64 (Y : Int)) ∧ U.cell? ⟨b1, off1 + X, none⟩ = some (.slice (some ⟨b2, off3, none⟩) R cap3) ∧ U.cell? ⟨b2, off3 + Y, none⟩ = some (.slice Aa n ca))
        (first | exact ⟨x0', x1', y0', y1'⟩ | exact ⟨(hB4.cell (p := ⟨g1, j * 2, none⟩) (Nat.lt_of_lt_of_le hg1 hBz)).trans x0', (hB4.cell (p := ⟨g1, j * 2 + 1, none⟩) (Nat.lt_of_lt_of_le hg1 hBz)).trans x1', (hB4.cell (p := ⟨b1, off1 + X, none⟩) (Nat.lt_of_lt_of_le hb1 (Nat.le_trans hB hBz))).trans y0', (hB4.cell (p := ⟨b2, off3 + Y, none⟩) (Nat.lt_of_lt_of_le hb2 (Nat.le_trans hB hBz))).trans y1'⟩) (first | (go_at_call 25; refine (HP.out _ _ hBr.drew (HHU.out.below ((Below.refl _ _).drew))).mono ?_; rintro e w4 ⟨v4, rfl, hv4, hB4⟩; replace hB4 := below_undrew hB4))
      all_goals go_wp2
      all_goals go_roundw
      case rel => exact ⟨j + 1, by omega, by go_num, by rw [HJX.out]; exact hv4.fresh.less hBz, below_in hBr hB4⟩
      case measure => simp [intOf]; omega
    · obtain rfl : j = N := by omega
      have hdec : decide ((j : Int) < (j : Int)) = false := by simp
      rw [HE.out] at hu
      go_wp2
      go_ret
      exact ⟨_, rfl, hu, hBr⟩
end Go.Proofs.YtcgnhfiadeceiaaGreatDoor.E

