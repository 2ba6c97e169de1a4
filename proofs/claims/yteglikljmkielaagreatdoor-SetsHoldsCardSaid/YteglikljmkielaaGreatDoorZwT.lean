/- Sets: over the cells that are made, each with what asks for its members. -/
import Derived.Test.YteglikljmkielaaGreatDoorZwQ
import Derived.Shelf.RegionOpen
import Derived.Test.YteglikljmkielaaGreatDoorZwV
namespace Go.Proofs.YteglikljmkielaaGreatDoor
open Go.RowKit Go.Shelf
set_option linter.unusedSimpArgs false
set_option linter.unusedVariables false
attribute [local go_sem] Oper.semAt_some

theorem one_way {e : Ending} {A B C D : Option Nat → Prop} (h : ∃ o', A o' ∧ B o' ∧ ((e = .returned (.bool true) ∧ C o') ∨ (e = .returned (.bool false) ∧ D o'))) :
    ∃ b, e = .returned (.bool b) ∧ ∃ o', A o' ∧ B o' ∧ (b = true → C o') ∧ (b = false → D o') := by
  obtain ⟨o', h1, h2, h3⟩ := h
  rcases h3 with ⟨rfl, h3⟩ | ⟨rfl, h3⟩
  · exact ⟨true, rfl, o', h1, h2, fun _ => h3, fun e => absurd e (by simp)⟩
  · exact ⟨false, rfl, o', h1, h2, fun e => absurd e (by simp), fun _ => h3⟩
set_option maxRecDepth 100000 in
set_option maxHeartbeats 8000000 in
theorem made1_in (n : Nat) (hn : 9 ≤ n) (l g lo mm : Nat) (k p d c : Int) (hR : RightC k p) (hd : d = p - shortN k) (hc : c = p - shortN k + madeN k) (hg : lo ≤ g ∧ g < lo + mm) (W : World) (hW : lo + mm ≤ W.heap.size) (hL : Laid W)
    (J Jx : List ((Int × Int) × Value) → Option Nat → World → Prop) (o₀ : Option Nat) (ho₀ : ∀ b, o₀ = some b → b < W.heap.size) (hJ : FarO W.heap.size J) (hJx : FarO W.heap.size Jx) (hr1 : ∀ s o X, J s o X → RowO o X) (hr2 : ∀ s o X, Jx s o X → RowO o X)
    (hY : ∀ pre x o W1, J pre o W1 → Asks (memB k p x.1.1 x.1.2) x.2 W1 → pre.length < 1000 → W.heap.size ≤ W1.heap.size → YieldAt Fence.wide (n - 1) Tryz.prog l #[.agg #[.int .i64 x.1.1, .int .i64 x.1.2], x.2] W1 fun e W' => ∃ o', FreshO o o' W1 ∧ SinceO W.heap.size o W1 W' ∧ ((e = .returned (.bool true) ∧ J (pre ++ [x]) o' W' ∧ KeepL lo mm W1 W') ∨ (e = .returned (.bool false) ∧ Jx (pre ++ [x]) o' W')))
    (bg : Blk W g 51 #[.int .i64 k, .int .i64 p, .int .i64 d, .int .i64 c]) (h0 : J [] o₀ W) :
    CallsIn Fence.wide n Tryz.prog 62 #[.func (.yield l) #[] #[], .pointer (some ⟨g, 0, none⟩)] W fun e W' => (∃ v, e = .returned v) ∧ ∃ o', FreshO o₀ o' W ∧ ((∃ xs, xs.map (·.1) = flatC p (spanL d c) ∧ J xs o' W') ∨ (∃ pre, pre.map (·.1) <+: flatC p (spanL d c) ∧ Jx pre o' W')) := by
  obtain ⟨p1, p2, s1, s2, m1, m2⟩ := hR.und
  have HS := Lib.hid (fun W => span_any d c (by omega) (by omega) (by omega) W)
  have hne : spanL d c ≠ [] := fun e => by have := spanL_len d c; rw [e] at this; simp at this; omega
  have hsl : (spanL d c).length ≤ 20 := by rw [spanL_len]; omega
  have hcs : ∀ x ∈ spanL d c, HasCol k p x := fun x hm => ⟨by have := (spanL_mem hm).1; omega, by have := (spanL_mem hm).2; omega⟩
  have HDn := Lib.hid (fun W hL base v hb ho => setsDown_any k p d c hR (spanL d c) hne hcs hsl W hL base v hb ho)
  have HDD := Lib.hid hd
  have HCC := Lib.hid hc
  have HHR := Lib.hid hR
  have HY := Lib.hid hY
  have HR1 := Lib.hid hr1
  have HR2 := Lib.hid hr2
  have HMC : Hid (∀ m ∈ flatC p (spanL d c), HasCell k p m.1 m.2 ∧ d ≤ m.1) := fun m hm => by
    obtain ⟨x, hx, hm⟩ := List.mem_flatMap.1 hm
    obtain ⟨y, hy, rfl⟩ := List.mem_map.1 hm
    exact ⟨⟨hcs x hx, (rows_walk p hR.2).2.2 y hy⟩, (spanL_mem hx).1⟩
  have hzl : (flatC p (spanL d c)).length ≤ 320 := by have := flatC_len p hR.2 (spanL d c); omega
  clear hd hc hR hY hr1 hr2 hne hsl hcs s1 s2 m1 m2
  generalize spanL d c = cs at *
  refine callsIn_of_wp_marks Tryz.func62 rfl trivial ?_ rfl
  simp only [Tryz.ntmps62, List.size_toArray, List.length_cons, List.length_nil, Nat.reduceAdd, Nat.reduceSub, Array.replicate_succ, Array.replicate_zero, List.push_toArray, List.append_toArray, List.nil_append, List.cons_append]
  obtain ⟨W0, hW0⟩ : ∃ W0, W.alloc (.cells #[.func (.yield l) #[] #[]] 94) = W0 := ⟨_, rfl⟩
  have hB : Below W.heap.size W W0 := by rw [← hW0]; exact below_one W _
  have bY : Blk W0 W.heap.size 94 #[.func (.yield l) #[] #[]] := by rw [← hW0]; exact Blk.new W _ _
  have bg0 := bg.below hB bg.lt
  have hL0 := hL.next hB
  have hJ0 : J [] o₀ W0 := hJ.below h0 hB
  have hs0 := hB.size
  gi_wp2_with fail
  clear hW0
  refine wpIn_wide.2 ?_
  go_region_held3 (fun W => W.cell? ⟨g, 0, none⟩ = some (.int .i64 k) ∧ W.cell? ⟨g, 1, none⟩ = some (.int .i64 p) ∧ W.cell? ⟨g, 2, none⟩ = some (.int .i64 d) ∧ W.cell? ⟨g, 3, none⟩ = some (.int .i64 c))
    (exact ⟨bg0.cell 0, bg0.cell 1, bg0.cell 2, bg0.cell 3⟩) (first
    | (go_at_call 57; refine (HS.out _).mono ?_; rintro e w1 ⟨u1, rfl, ho1, hB1⟩; (first | replace bg0 := bg0.below hB1 bg0.lt | replace bg0 := bg0.nextd hB1); (first | replace bY := bY.below hB1 bY.lt | replace bY := bY.nextd hB1); (first | replace hJ0 := hJ.below hJ0 hB1 | replace hJ0 := hJ.below (hJ.below hJ0 (Below.refl _ _).drew) hB1); (first | replace hB := below_in hB hB1 | replace hB := below_in hB.drew hB1); have hL1 := (by first | exact Laid.next (w := W0.drew) hL0 hB1 | exact Laid.next (w := W0) hL0 hB1 : Laid w1))
    | (go_at_call 56; refine (HDn.out _ hL1 W.heap.size _ hB.size (OwnI.less ho1 hs0)).mono ?_; rintro e w7 ⟨u2, rfl, hsq, hB2⟩; replace bg0 := bg0.below hB2 bg0.lt; replace bY := bY.below hB2 bY.lt; replace hJ0 := hJ.below hJ0 hB2; replace hB := below_in hB hB2))
  go_wp2_with fail
  obtain ⟨gf, lb, rfl, eg, hsg⟩ := hsq
  have s7 := hB.size
  have hL7 := hL.next hB
  have hYo : some W.heap.size ≠ o₀ := fun e => by have := ho₀ _ e.symm; omega
  gi_wp2_with fail
  refine wpIn_rangeBoxO rfl (by omega) (gf := gf) (lb := lb) rfl trivial eg (hsg (n - 1) (by omega)) (fun h h' => h.trans h') (fun V l ob hl _ hlp => ⟨Keep.putFar V (by omega) ob, fun h => laid_put h hlp ob⟩) (Below.refl _ _) (fun _ => rfl)
    (fun pre oX X => ∃ xs, xs.map (·.1) = pre ∧ J xs oX X ∧ FreshO o₀ oX w7 ∧ Laid X ∧ Keep lo mm w7 X ∧ SinceO W.heap.size o₀ w7 X)
    (fun c pre oX X => c = .ret ∧ ∃ xs, xs.map (·.1) = pre ∧ Jx xs oX X ∧ FreshO o₀ oX w7 ∧ SinceO W.heap.size o₀ w7 X)
    ?hI ?hIx o₀ (fun b e => by have := ho₀ b e; omega) ⟨[], rfl, hJ0, .inl rfl, hL7, Keep.refl _ _ _, SinceO.refl _ _ _⟩
    (fun z => z ∈ flatC p cs) (fun _ _ h => h) 59 (fun z : Int × Int => #[.int .i64 z.1, .int .i64 z.2]) ?a1
    ?assign (fun pre o X h => by obtain ⟨xs, _, h1, _⟩ := h; exact HR1.out _ _ _ h1) (fun c pre o X h => by obtain ⟨_, xs, _, h1, _⟩ := h; exact HR2.out _ _ _ h1) ?body ?done ?stop
  case hI =>
    rintro s o X Y row ⟨xs, e1, hj, hf, hl, hk, hst⟩ hgr hr
    exact ⟨xs, e1, hJ _ o X Y row hj hgr (fun r e => ⟨by have := (hr r e).1; omega, (hr r e).2⟩), hf, farO_laid (β := Unit) hL7 (Nat.le_refl _) () o X Y row hl hgr hr, farO_keep (β := Unit) w7 (Nat.le_refl _) (by omega) () o X Y row hk hgr hr, farO_since (β := Unit) w7 o₀ (Nat.le_refl _) () o X Y row hst hgr hr⟩
  case hIx =>
    rintro c s o X Y row ⟨e0, xs, e1, hj, hf, hst⟩ hgr hr
    exact ⟨e0, xs, e1, hJx _ o X Y row hj hgr (fun r e => ⟨by have := (hr r e).1; omega, (hr r e).2⟩), hf, farO_since (β := Unit) w7 o₀ (Nat.le_refl _) () o X Y row hst hgr hr⟩
  case assign =>
    rintro l' pre z oX X KK hsz holX ⟨xs, e1, hj, hfX, hl, hkX, hst⟩ _ hKK
    gi_wp2
    have hbx := Blk.new X 59 #[.int .i64 z.1, .int .i64 z.2]
    have hBz := below_one X (.cells #[.int .i64 z.1, .int .i64 z.2] 59)
    have hSi : SinceO w7.heap.size oX X (X.alloc (.cells #[.int .i64 z.1, .int .i64 z.2] 59)) := SinceO.below hBz
    have hKe : KeepL W.heap.size (w7.heap.size - W.heap.size) X (X.alloc (.cells #[.int .i64 z.1, .int .i64 z.2] 59)) := ⟨Keep.alloc (by omega) _, fun h => h.next hBz⟩
    have hj2 := hJ.below hj hBz
    have hl2 := hl.next hBz
    have hkX2 := hkX.trans (Keep.below hBz (by have := hkX.1; omega))
    have hst2 := hst.trans hfX (SinceO.below hBz)
    have hne : some X.heap.size ≠ oX := fun e => by have := holX _ e.symm; omega
    clear hBz holX
    generalize X.alloc (.cells #[.int .i64 z.1, .int .i64 z.2] 59) = X' at *
    generalize X.heap.size = Bx at *
    exact hKK Bx _ hSi hKe ⟨xs, e1, hj2, hfX, hl2, hkX2, hst2⟩ hbx hne hsz
  case body =>
    rintro l' pre z oX Bx X hsz ⟨xs, e1, hj, hfX, hl, hkX, hst⟩ hbx hneB hleB hzm hlz
    have hYc := (hst.blk bY (Nat.le_refl _) hYo).one
    have hgX := hkX.blk bg0 hg.1 hg.2
    have g0 := hgX.cell 0
    have g1 := hgX.cell 1
    have g2 := hgX.cell 2
    have g3 := hgX.cell 3
    have z0 := hbx.cell 0
    have z1 := hbx.cell 1
    simp only [List.getElem?_toArray, List.getElem?_cons_zero, List.getElem?_cons_succ] at g0 g1 g2 g3 z0 z1
    obtain ⟨hzc, hzd⟩ := HMC.out z hzm
    have HAs : Hid (∀ V, Laid V → Calls Tryz.prog 41 #[.agg #[.int .i64 k, .int .i64 p, .int .i64 d, .int .i64 c], .agg #[.int .i64 z.1, .int .i64 z.2]] V fun e w' => ∃ v, e = .returned v ∧ Asks (memB k p z.1 z.2) v w' ∧ Below V.heap.size V w') := fun V hV =>
      (asker_any k p d c z.1 z.2 _ HHR.out HDD.out hzc.1 rfl (role_made HHR.out hzc HDD.out hzd) V hV).mono fun e w' ⟨v, e2, hA, hBv⟩ => ⟨v, e2, (by rw [HDD.out] at hA; exact hA), hBv⟩
    have hlx : xs.length < 1000 := by rw [← List.length_map (f := (·.1)), e1]; exact hlz
    have hmo := (show Tryz.prog.follows .mixedOrders = true by kernel_rfl)
    clear hzc hzd hzm
    have hn3 : 1 ≤ n - 1 - 1 := by omega
    have hj0 := hJ.below hj (Below.refl _ _).drew
    have hl0 : Laid X.drew := hl
    have HPost : Hid (∀ (X2 W3 : World) (v : Value) (o' : Option Nat), Below X.drew.heap.size X.drew X2 → FreshO oX o' X2 → SinceO W.heap.size oX X2 W3 →
        ((J (xs ++ [(z, v)]) o' W3 ∧ KeepL lo mm X2 W3) → ∃ o', FreshO oX o' X ∧ SinceO w7.heap.size oX X W3 ∧ KeepL W.heap.size (w7.heap.size - W.heap.size) X W3 ∧ ∃ xs', xs'.map (·.1) = pre ++ [z] ∧ J xs' o' W3 ∧ FreshO o₀ o' w7 ∧ Laid W3 ∧ Keep lo mm w7 W3 ∧ SinceO W.heap.size o₀ w7 W3) ∧
        (Jx (xs ++ [(z, v)]) o' W3 → ∃ o', FreshO oX o' X ∧ SinceO w7.heap.size oX X W3 ∧ Code.ret = Code.ret ∧ ∃ xs', xs'.map (·.1) = pre ++ [z] ∧ Jx xs' o' W3 ∧ FreshO o₀ o' w7 ∧ SinceO W.heap.size o₀ w7 W3)) := fun X2 W3 v o' hB2 hf3 hS3 => by
      have hBX : Below X.heap.size X X2 := below_in (Below.refl _ _).drew hB2
      have hSx : SinceO W.heap.size oX X W3 := (SinceO.below hBX).trans_ hS3
      have hfx : FreshO oX o' X := hf3.later hBX.size
      have hmap : (xs ++ [(z, v)]).map (·.1) = pre ++ [z] := by rw [List.map_append, e1]; rfl
      refine ⟨fun ⟨h1, h2⟩ => ⟨o', hfx, hSx.less (by omega), ⟨hSx.keep (Nat.le_refl _) (by omega) (fun b e => ?_), fun h => h2.2 (h.next hBX)⟩, _, hmap, h1, hfX.trans hsz hfx, h2.2 (hl.next hBX), hkX.trans ((Keep.below hBX (by omega)).trans h2.1), hst.trans hfX hSx⟩, fun h => ⟨o', hfx, hSx.less (by omega), rfl, _, hmap, h, hfX.trans hsz hfx, hst.trans hfX hSx⟩⟩
      rcases hfX with rfl | ⟨b2, rfl, hb2⟩
      · have := ho₀ b e; omega
      · injection e with e; omega
    have HJ := Lib.hid hJ
    have hWB : W.heap.size ≤ Bx := by omega
    have hYo' : some W.heap.size ≠ oX := hfX.ne (by have := bY.lt; omega) hYo
    have hWX : W.heap.size ≤ X.heap.size := by omega
    clear e1 hlz hj hJ hJx hst hkX hfX hl hbx hgX hW hsg hL7 s7 hL0 hL hs0 hB
    gi_wp2_with fail
    have hS : (fun V : World => V.cell? ⟨W.heap.size, 0, none⟩ = some (.func (.yield l) #[] #[]) ∧ V.cell? ⟨Bx, 0, none⟩ = some (.int .i64 z.1) ∧ V.cell? ⟨Bx, 1, none⟩ = some (.int .i64 z.2)) X.drew := ⟨hYc, z0, z1⟩
    refine region_HF (S := fun V => V.cell? ⟨W.heap.size, 0, none⟩ = some (.func (.yield l) #[] #[]) ∧ V.cell? ⟨Bx, 0, none⟩ = some (.int .i64 z.1) ∧ V.cell? ⟨Bx, 1, none⟩ = some (.int .i64 z.2)) (by kernel_rfl) ?_
    refine anyHF_take (i := 0) (d := 12) (v := .func (.yield l) #[] #[]) (by kernel_rfl) rfl (by kernel_rfl) (by kernel_rfl) (by kernel_rfl) rfl (fun _ _ _ h => h) ⟨Or.inl ⟨by rfl, fun w hS => by obtain ⟨h0, h1, h2⟩ := hS; go_simp⟩, fun _ => rfl⟩ hS ?_
    simp only [List.setIfInBounds_toArray, List.set_cons_zero, List.set_cons_succ]
    refine anyHF_take (i := 1) (d := 13) (v := .agg #[.int .i64 z.1, .int .i64 z.2]) (by kernel_rfl) rfl (by kernel_rfl) (by kernel_rfl) (by kernel_rfl) rfl (fun _ _ _ h => h) ⟨Or.inl ⟨by rfl, fun w hS => by obtain ⟨h0, h1, h2⟩ := hS; go_simp⟩, fun _ => rfl⟩ hS ?_
    simp only [List.setIfInBounds_toArray, List.set_cons_zero, List.set_cons_succ]
    refine anyHF_take (i := 3) (d := 15) (v := .agg #[.int .i64 z.1, .int .i64 z.2]) (by kernel_rfl) rfl (by kernel_rfl) (by kernel_rfl) (by kernel_rfl) rfl (fun _ _ _ h => h) ⟨Or.inl ⟨by rfl, fun w hS => by obtain ⟨h0, h1, h2⟩ := hS; go_simp⟩, fun _ => rfl⟩ hS ?_
    simp only [List.setIfInBounds_toArray, List.set_cons_zero, List.set_cons_succ]
    refine anyHF_one (i := 2) (by kernel_rfl) rfl (by kernel_rfl) (by rfl) ?_
    gi_wp2
    refine anyHF_one (i := 4) (by kernel_rfl) rfl (by kernel_rfl) (by rfl) ?_
    gi_wp2_with fail
    refine ⟨trivial, (CallsIn.inRound l' (callsIn_wide.2 (HAs.out _ hl0))).mono ?_⟩
    rintro e X2 ⟨v, rfl, hA, hB2⟩
    have hj2 := HJ.out.below hj0 hB2
    have hY2 := nextcd hYc hB2
    have y0 := nextcd z0 hB2
    have y1 := nextcd z1 hB2
    obtain ⟨fn, tmps, asg, bdy, hy, hRr⟩ := YieldAt.deep (m := n - 1 - 1 - 1) (HY.out xs (z, v) oX X2 hj2 hA hlx (by have := hB2.size; simp at this; omega))
    clear hS
    gi_wp2
    refine anyHF_one (i := 5) (by kernel_rfl) rfl (by kernel_rfl) (by rfl) ?_
    gi_wp2
    refine hRr.mono ?_
    rintro e W3 hw3
    obtain ⟨bb, rfl, o', hf3, hS3, hyes, hno⟩ := one_way hw3
    clear hw3 hRr hy
    have hX2 := hB2.size
    have cY3 : W3.cell? ⟨W.heap.size, 0, none⟩ = some (.func (.yield l) #[] #[]) := (World.cell?_of_block (hS3.2 W.heap.size (Nat.le_refl _) (cell_lt hY2) hYo')).trans hY2
    have cz0 : W3.cell? ⟨Bx, 0, none⟩ = some (.int .i64 z.1) := (World.cell?_of_block (hS3.2 Bx (by omega) (cell_lt y0) hneB)).trans y0
    have cz1 : W3.cell? ⟨Bx, 1, none⟩ = some (.int .i64 z.2) := (World.cell?_of_block (hS3.2 Bx (by omega) (cell_lt y1) hneB)).trans y1
    have hpo := HPost.out _ _ v _ hB2 hf3 hS3
    gi_wp2
    refine anyHF_one (i := 6) (by kernel_rfl) rfl (by kernel_rfl) (by rfl) ?_
    gi_wp2
    refine anyHF_done (by kernel_rfl) ?_ _
    clear HPost hYc z0 z1 g0 g1 g2 g3 hA HAs HJ HY hj0 hj2
    cases bb
    · gi_wp2
      obtain ⟨o2, a1, a2, _, a4⟩ := hpo.2 (hno (by trivial))
      exact ⟨o2, a1, a2, rfl, a4⟩
    · gi_wp2
      exact hpo.1 (hyes (by trivial))
  case done =>
    rintro D xs' oX X hD _ rfl ⟨xs, e1, hj, hfX, hl, hkX, hst⟩ hKD hneD
    have hfo : FreshO o₀ oX W := hfX.later s7
    gi_wp2
    exact leaves_farO (B := W.heap.size) (I := fun (_ : Unit) o X => J xs o X) (fun s o X Y row hs hg hr => hJ _ o X Y row hs hg hr) () oX (fun X h => HR1.out _ _ _ h) [D] _ ⟨by simp, fun E hE => by obtain rfl := List.mem_singleton.1 hE; exact ⟨by omega, hKD⟩⟩ hj (fun W' h => ⟨_, results_none rfl _ _ _, ⟨_, rfl⟩, oX, hfo, .inl ⟨xs, e1, h⟩⟩)
  case stop =>
    rintro D c pre oX X hD _ hSp ⟨rfl, xs, e1, hjx, hfX, hst⟩ hKD _
    have hfo : FreshO o₀ oX W := hfX.later s7
    gi_wp2
    exact leaves_farO (B := W.heap.size) (I := fun (_ : Unit) o X => Jx xs o X) (fun s o X Y row hs hg hr => hJx _ o X Y row hs hg hr) () oX (fun X h => HR2.out _ _ _ h) [D] _ ⟨by simp, fun E hE => by obtain rfl := List.mem_singleton.1 hE; exact ⟨by omega, hKD⟩⟩ hjx (fun W' h => ⟨_, results_none rfl _ _ _, ⟨_, rfl⟩, oX, hfo, .inr ⟨xs, by rw [e1]; exact hSp, h⟩⟩)
end Go.Proofs.YteglikljmkielaaGreatDoor
