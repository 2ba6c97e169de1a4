/- The places of a column, over which a range goes whose body keeps a row of its own. -/
import Derived.Test.YteglikljmkielaaGreatDoorZwK
namespace Go.Proofs.YteglikljmkielaaGreatDoor
open Go.RowKit Go.Shelf
set_option linter.unusedSimpArgs false
set_option linter.unusedVariables false
attribute [local go_sem] Oper.semAt_some

theorem rowsL_mem {p y : Int} (hy : 0 ≤ y ∧ y < p - 1) : y ∈ rowsL p := by
  unfold rowsL
  exact List.mem_map.2 ⟨y.toNat, List.mem_range.2 (by omega), by omega⟩
set_option maxRecDepth 100000 in
set_option maxHeartbeats 2000000 in
theorem cellsDown_in (n : Nat) (hn : 4 ≤ n) (l g h lo mm : Nat) (k p s m col : Int) (hp : p ∈ prm) (hu : Und p s m) (hg1 : lo ≤ g) (hg2 : g < lo + mm) (hh1 : lo ≤ h) (hh2 : h < lo + mm) (W : World) (hW : lo + mm ≤ W.heap.size) (hL : Laid W) (J Jx : List Int → Option Nat → World → Prop) (o₀ : Option Nat) (ho₀ : ∀ b, o₀ = some b → b < W.heap.size)
    (hJ : FarO W.heap.size J) (hJx : FarO W.heap.size Jx) (hr1 : ∀ s o X, J s o X → RowO o X) (hr2 : ∀ s o X, Jx s o X → RowO o X)
    (hY : ∀ pre x o W1, J pre o W1 → x ∈ rowsL p → pre.length < p.toNat → W.heap.size ≤ W1.heap.size → YieldAt Fence.wide (n - 1) Tryz.prog l #[.agg #[.int .i64 col, .int .i64 x]] W1 fun e W' => ∃ o', FreshO o o' W1 ∧ SinceO W.heap.size o W1 W' ∧ ((e = .returned (.bool true) ∧ J (pre ++ [x]) o' W' ∧ Keep lo mm W1 W') ∨ (e = .returned (.bool false) ∧ Jx (pre ++ [x]) o' W')))
    (bg : Blk W g 93 #[.int .i64 k, .int .i64 p, .int .i64 s, .int .i64 m]) (bh : Blk W h 3 #[.int .i64 col]) (h0 : J [] o₀ W) :
    CallsIn Fence.wide n Tryz.prog 102 #[.func (.yield l) #[] #[], .pointer (some ⟨g, 0, none⟩), .pointer (some ⟨h, 0, none⟩)] W fun e W' => (∃ v, e = .returned v) ∧ ∃ o', FreshO o₀ o' W ∧ ((∃ ys, ys = rowsL p ∧ J ys o' W') ∨ (∃ pre, pre <+: rowsL p ∧ Jx pre o' W')) := by
  have HWk := Lib.hid (fun V hV => modWalk_any p 0 1 V hV (by omega) (by omega))
  refine callsIn_of_wp_marks Tryz.func102 rfl trivial ?_ rfl
  simp only [Tryz.ntmps102, List.size_toArray, List.length_cons, List.length_nil, Nat.reduceAdd, Nat.reduceSub, Array.replicate_succ, Array.replicate_zero, List.push_toArray, List.append_toArray, List.nil_append, List.cons_append]
  obtain ⟨W0, hW0⟩ : ∃ W0, W.alloc (.cells #[.func (.yield l) #[] #[]] 99) = W0 := ⟨_, rfl⟩
  have hB0 : Below W.heap.size W W0 := by rw [← hW0]; exact below_one W _
  have bY : Blk W0 W.heap.size 99 #[.func (.yield l) #[] #[]] := by rw [← hW0]; exact Blk.new W _ _
  have bg0 := bg.below hB0 bg.lt
  have bh0 := bh.below hB0 bh.lt
  have hL0 := hL.next hB0
  have hJ0 : J [] o₀ W0 := hJ.below h0 hB0
  have d1 : W0.cell? ⟨g, 1, none⟩ = some (.int .i64 p) := bg0.cell 1
  gi_wp2_with fail
  refine wpIn_scope_wide ?_
  gi_wp2_with fail
  refine wpIn_label ?_
  gi_wp2_with fail
  refine ⟨trivial, fun _ => by omega, (callsIn_wide.2 (HWk.out _ hL0)).mono ?_⟩
  rintro e v1 ⟨v, rfl, ⟨gf, lb, rfl, eg, eq, ⟨kk, hgo⟩⟩, hX⟩
  have bY1 := bY.below hX bY.lt
  have bg1 := bg0.below hX bg0.lt
  have bh1 := bh0.below hX bh0.lt
  have hJ1 : J [] o₀ v1 := hJ.below hJ0 hX
  have hlo := hX.size
  have hi := bY.lt
  clear eq hL0 bg0 bh0 d1 hJ0 HWk
  gi_wp2_with fail
  refine wpIn_rangeOwn1 rfl (by omega) (gf := gf) (lb := lb) rfl trivial eg (hgo _ (by omega)) (by omega) (Below.refl _ _) (fun _ => rfl)
    (fun pre V => (∃ o, J pre o V ∧ FreshO o₀ o W ∧ ∀ b, o = some b → b < W.heap.size ∨ v1.heap.size + (2 + kk) ≤ b) ∧ (∀ y ∈ pre, 0 ≤ y ∧ y < p - 1) ∧ Blk V W.heap.size 99 #[.func (.yield l) #[] #[]] ∧ Blk V g 93 #[.int .i64 k, .int .i64 p, .int .i64 s, .int .i64 m] ∧ Blk V h 3 #[.int .i64 col])
    (fun c pre V => c = .exit 0 ∧ ∃ q x o, pre = q ++ [x] ∧ FreshO o₀ o W ∧ (∀ b, o = some b → b < W.heap.size ∨ v1.heap.size + (2 + kk) ≤ b) ∧ ((¬ (0 ≤ x ∧ x < p - 1) ∧ J q o V) ∨ ((0 ≤ x ∧ x < p - 1) ∧ Jx pre o V)))
    ?hI ?hIx ⟨⟨o₀, hJ1, .inl rfl, fun b e => .inl (ho₀ b e)⟩, by simp, bY1, bg1, bh1⟩ ?a1 ?assign ?body ?done ?stop
  case hI =>
    refine Spares.and (fun s X Y row hs hg hr => ?_) ((spares_pure _ _ _).and ((spares_blk (by omega) _ (fun _ => _)).and ((spares_blk (by omega) _ (fun _ => _)).and (spares_blk (by omega) _ (fun _ => _)))))
    obtain ⟨o, h1, h2, h3⟩ := hs
    exact ⟨o, hJ s o X Y row h1 hg (fun r e => ⟨by have := hr r e; omega, fun e2 => by have := hr r e; have := h3 r e2.symm; omega⟩), h2, h3⟩
  case hIx =>
    rintro c pre X Y row ⟨h1, q, x, o, h2, hf, hb, h3⟩ hg hr
    have hr' : ∀ r, row = some r → W.heap.size ≤ r ∧ some r ≠ o := fun r e => ⟨by have := hr r e; omega, fun e2 => by have := hr r e; have := hb r e2.symm; omega⟩
    exact ⟨h1, q, x, o, h2, hf, hb, h3.imp (fun h => ⟨h.1, hJ _ _ _ _ _ h.2 hg hr'⟩) (fun h => ⟨h.1, hJx _ _ _ _ _ h.2 hg hr'⟩)⟩
  case assign =>
    intro l' x V K hK
    gi_wp2
    exact hK
  case body =>
    rintro l' pre x V hsz ⟨⟨o, hj, hfo, hbo⟩, hr, bY, bg, bh⟩ hlen
    have hYo : some W.heap.size ≠ o := fun e => by have := hbo _ e.symm; omega
    have hlen2 : pre.length < p.toNat := by
      obtain ⟨e1, e2, _⟩ := rows_walk p hp
      rw [e1, List.length_append] at hlen
      simp at hlen
      omega
    have hn3 : 1 ≤ n - 1 - 1 := by omega
    have c0 := bg.cell 0
    have c1 := bg.cell 1
    have c2 := bg.cell 2
    have c3 := bg.cell 3
    simp only [List.getElem?_toArray, List.getElem?_cons_zero, List.getElem?_cons_succ] at c0 c1 c2 c3
    by_cases hx : 0 ≤ x ∧ x < p - 1
    · have HR := Lib.hid (fun V => (hasRow_any k p s m x hu V).mono fun _ _ h => And.intro (h.1.trans (ret_bool (decide_eq_true hx))) h.2)
      gi_wp2_with fail
      refine ⟨trivial, (CallsIn.inRound l' (callsIn_wide.2 (HR.out V))).mono ?_⟩
      rintro e V1 ⟨rfl, hB1⟩
      have hj1 : J pre o V1 := hJ.below hj hB1
      have hs1 := hB1.size
      have cY := (bY.below hB1 bY.lt).one
      have cH := (bh.below hB1 bh.lt).one
      obtain ⟨fn, tmps, asg, bdy, hy, hR⟩ := YieldAt.deep (m := n - 1 - 1 - 1) (hY pre x o V1 hj1 (rowsL_mem hx) hlen2 (by omega))
      gi_wp2
      refine hR.mono ?_
      rintro e W3 ⟨o', hf3, hS3, (⟨rfl, hJ3, hk3⟩ | ⟨rfl, hJx3⟩)⟩
      · gi_wp2
        have hS : SinceO W.heap.size o V W3 := (SinceO.below hB1).trans_ hS3
        have hbo' : ∀ b, o' = some b → b < W.heap.size ∨ v1.heap.size + (2 + kk) ≤ b := fun b e => by
          rcases hf3 with rfl | ⟨b2, rfl, hb2⟩
          · exact hbo b e
          · injection e with e; omega
        have hfo' : FreshO o₀ o' W := hfo.trans (by omega) hf3
        have hkk : Keep lo mm V W3 := (Keep.below hB1 (by omega)).trans hk3
        refine ⟨hS.keep (by omega) hsz (fun b e => by have := hbo b e; omega), hS.keep (by omega) (by omega) (fun b e => by have := hbo b e; omega), ⟨o', hJ3, hfo', hbo'⟩, ?_, (hS.2 _ (Nat.le_refl _) bY.lt hYo).trans bY, hkk.blk bg hg1 hg2, hkk.blk bh hh1 hh2⟩
        intro y hy
        rcases List.mem_append.1 hy with h1 | h1
        · exact hr y h1
        · rw [List.mem_singleton.1 h1]; exact hx
      · gi_wp2
        have hS : SinceO W.heap.size o V W3 := (SinceO.below hB1).trans_ hS3
        have hbo' : ∀ b, o' = some b → b < W.heap.size ∨ v1.heap.size + (2 + kk) ≤ b := fun b e => by
          rcases hf3 with rfl | ⟨b2, rfl, hb2⟩
          · exact hbo b e
          · injection e with e; omega
        have hfo' : FreshO o₀ o' W := hfo.trans (by omega) hf3
        exact ⟨hS.keep (by omega) hsz (fun b e => by have := hbo b e; omega), rfl, pre, x, o', rfl, hfo', hbo', .inr ⟨hx, hJx3⟩⟩
    · have HR := Lib.hid (fun V => (hasRow_any k p s m x hu V).mono fun _ _ h => And.intro (h.1.trans (ret_bool (decide_eq_false hx))) h.2)
      gi_wp2_with (refine ⟨trivial, ?_⟩; gi_at_call 79; refine (callsIn_wide.2 (HR.out _)).mono ?_; rintro e V1 ⟨rfl, hB1⟩)
      refine ⟨fun _ h => (by cases h), ?_⟩
      gi_wp2
      have hS1 : Since W.heap.size V V1 := Since.below hB1
      exact ⟨hS1.keep (by omega) hsz, rfl, pre, x, o, rfl, hfo, hbo, .inl ⟨hx, hJ.below hj hB1⟩⟩
  case done =>
    rintro D xs V hD rfl ⟨_, hr, _⟩ _
    exfalso
    obtain ⟨e1, _, _⟩ := rows_walk p hp
    have := hr (p - 1) (by rw [e1]; simp)
    omega
  case stop =>
    rintro D c pre V hD hSp ⟨rfl, q, x, o, rfl, hfo, hbo, hq⟩ hK
    gi_wp2
    rw [Exit.noGoto_normal]
    refine ⟨by simp, .inl ⟨_, _, rfl, run_takeDeferred hK, ?_⟩⟩
    refine ⟨_, results_none rfl _ _ _, ⟨_, rfl⟩, o, hfo, ?_⟩
    rcases hq with ⟨hx, hq⟩ | ⟨hx, hq⟩
    · exact .inl ⟨q, rows_left p hp q x hSp hx, hJ.put hq (by omega) ((hr1 _ _ _ hq).ne hK) _⟩
    · exact .inr ⟨_, rows_some p hp q x hSp hx, hJx.put hq (by omega) ((hr2 _ _ _ hq).ne hK) _⟩

/-- What goes over places of the column col, and is no nil. -/
def PlacesO (lo : Nat) (col : Int) (zs : List Int) (N : Nat) (v : Value) (w : World) : Prop :=
  ∃ gf lb, v = .func (.func gf) #[] lb ∧ (∀ args W, (callFunc gf args).run Tryz.prog W = .ok (.enter gf args) W) ∧ (∀ W, (binOp .eql 108 v .nilFunc).run Tryz.prog W = .ok (.bool false) W) ∧
    ∀ n, 4 ≤ n → SeqO Fence.wide n Tryz.prog gf lb (fun x : Int => #[.agg #[.int .i64 col, .int .i64 x]]) (fun x _ => x ∈ zs) (Keep lo (w.heap.size - lo)) (fun ys => ys = zs) (fun pre => pre <+: zs) N w

set_option maxHeartbeats 400000 in
theorem cells1_inO (n l : Nat) (J Jx : List Int → Option Nat → World → Prop) (o₀ : Option Nat) (W : World) (h0 : J [] o₀ W) :
    CallsIn Fence.wide n Tryz.prog 87 (#[.func (.yield l) #[] #[]] ++ #[]) W fun e W' => (∃ v, e = .returned v) ∧ ∃ o', FreshO o₀ o' W ∧ ((∃ ys, ys = [] ∧ J ys o' W') ∨ (∃ pre, pre <+: [] ∧ Jx pre o' W')) := by
  refine callsIn_of_wp Tryz.func87 rfl trivial ?_ rfl
  simp only [Tryz.ntmps87, List.size_toArray, List.length_cons, List.length_nil, Nat.reduceAdd, Nat.reduceSub, Array.replicate_succ, Array.replicate_zero, List.push_toArray, List.append_toArray, List.nil_append, List.cons_append]
  gi_wp2
  go_end0
  exact ⟨⟨_, rfl⟩, o₀, .inl rfl, .inl ⟨_, rfl, h0⟩⟩

set_option maxHeartbeats 400000 in
theorem down_anyO (k p s m col : Int) (hp : p ∈ prm) (hu : Und p s m) (w : World) (hL : Laid w) :
    Calls Tryz.prog 86 #[.agg #[.int .i64 k, .int .i64 p, .int .i64 s, .int .i64 m], .int .i64 col] w fun e w' => ∃ v, e = .returned v ∧ PlacesO w.heap.size col (rowsL p) p.toNat v w' ∧ Below w.heap.size w w' := by
  have hmf := make_func
  go_enter Tryz.func86, Tryz.ntmps86
  go_wp2
  go_ret
  have hB := below_two w (.cells #[.int .i64 k, .int .i64 p, .int .i64 s, .int .i64 m] 93) (.cells #[.int .i64 col] 3)
  have bg := (Blk.new w 93 #[.int .i64 k, .int .i64 p, .int .i64 s, .int .i64 m]).alloc (.cells #[.int .i64 col] 3)
  have bh := Blk.second w (.cells #[.int .i64 k, .int .i64 p, .int .i64 s, .int .i64 m] 93) 3 #[.int .i64 col]
  have hL2 := hL.next hB
  refine ⟨_, rfl, ⟨_, _, rfl, enter_down1, eql_down1 _ _, ?_⟩, hB⟩
  intro n hn l J Jx W o₀ hW ho₀ hJ hJx hr1 hr2 hY h0
  exact cellsDown_in n hn l _ _ w.heap.size _ k p s m col hp hu (Nat.le_refl _) (by simp; omega) (by omega) (by simp; omega) W (by have := hW.size; simp at this ⊢; omega) (hL2.next hW) J Jx o₀ ho₀ hJ hJx hr1 hr2 hY (bg.below hW bg.lt) (bh.below hW bh.lt) h0

theorem PlacesO.less {lo lo' N : Nat} {col : Int} {zs : List Int} {v : Value} {w : World} (h : PlacesO lo col zs N v w) (hl : lo' ≤ lo) (hw : lo ≤ w.heap.size) : PlacesO lo' col zs N v w := by
  obtain ⟨gf, lb, e, eg, eq, hg⟩ := h
  exact ⟨gf, lb, e, eg, eq, fun n hn l J Jx W o₀ hW ho₀ hJ hJx hr1 hr2 hY h0 => hg n hn l J Jx W o₀ hW ho₀ hJ hJx hr1 hr2 (fun pre x o W1 hj hok hl' hs => (hY pre x o W1 hj hok hl' hs).mono fun _ _ ⟨o', hf, hS, h⟩ => ⟨o', hf, hS, h.imp (fun ⟨h1, h2, h3⟩ => ⟨h1, h2, h3.less hl (by omega)⟩) id⟩) h0⟩

theorem none_placesO (lo N : Nat) (x : Int) (w : World) : PlacesO lo x [] N (.func (.func 87) #[] #[]) w :=
  ⟨_, _, rfl, enter_cells1, eql_cells1, fun n _ l J Jx W o₀ _ _ _ _ _ _ _ h0 => cells1_inO n l J Jx o₀ W h0⟩

set_option maxHeartbeats 1000000 in
theorem shapeCells_anyO (k p x : Int) (w : World) (hL : Laid w) : Calls Tryz.prog 75 #[.agg #[.int .i64 k, .int .i64 p], .int .i64 x] w fun e w' => ∃ v, e = .returned v ∧ (∃ zs, Column k p x zs ∧ PlacesO w.heap.size x zs p.toNat v w') ∧ Below w.heap.size w w' := by
  have hB := below_one w (.cells #[.int .i64 k, .int .i64 p] 24)
  by_cases hR : RightC k p
  · by_cases hb : HasCol k p x
    · have HT := Lib.hid (toldS_yes 69 86 enter_hasColumn enter_down k p x hR _ (fun W hL => (hasColumn_any k p _ _ x hR.und W).mono fun _ _ h => ⟨h.1.trans (ret_bool (decide_eq_true hb)), h.2⟩)
        (fun v w' => PlacesO w.heap.size x (rowsL p) p.toNat v w') (fun W hL hs => (down_anyO k p _ _ x hR.2 hR.und W hL).mono fun _ _ ⟨v, h1, h2, h3⟩ => ⟨v, h1, h2.less (by have := hB.size; omega) h3.size, h3⟩) (hL.next hB))
      have HC : Hid (Column k p x (rowsL p)) := .inl ⟨hR, hb, rfl⟩
      clear hb hR
      generalize rowsL p = zs at *
      go_enter Tryz.func75, Tryz.ntmps75
      go_wp2_with (go_at_call 85; refine HT.out.mono ?_; rintro e w1 ⟨v, rfl, hv, hB1⟩)
      go_ret
      exact ⟨_, rfl, ⟨_, HC.out, hv⟩, below_in hB hB1⟩
    · have HT := Lib.hid (toldS_out 69 86 enter_hasColumn k p x hR (fun W hL => (hasColumn_any k p _ _ x hR.und W).mono fun _ _ h => ⟨h.1.trans (ret_bool (decide_eq_false hb)), h.2⟩) _ (hL.next hB))
      have HC : Hid (Column k p x []) := .inr ⟨fun h => hb h.2, rfl⟩
      clear hb hR
      go_enter Tryz.func75, Tryz.ntmps75
      go_wp2_with (go_at_call 85; refine HT.out.mono ?_; rintro e w1 ⟨rfl, hB1⟩)
      go_ret
      exact ⟨_, rfl, ⟨_, HC.out, none_placesO _ _ _ _⟩, below_in hB hB1⟩
  · have HT := Lib.hid (toldS_no 69 86 k p x hR _ (hL.next hB))
    have HC : Hid (Column k p x []) := .inr ⟨fun h => hR h.1, rfl⟩
    clear hR
    go_enter Tryz.func75, Tryz.ntmps75
    go_wp2_with (go_at_call 85; refine HT.out.mono ?_; rintro e w1 ⟨rfl, hB1⟩)
    go_ret
    exact ⟨_, rfl, ⟨_, HC.out, none_placesO _ _ _ _⟩, below_in hB hB1⟩
end Go.Proofs.YteglikljmkielaaGreatDoor
