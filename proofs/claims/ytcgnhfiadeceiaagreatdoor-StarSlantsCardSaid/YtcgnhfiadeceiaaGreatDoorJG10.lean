/- The places of a column, over which a range goes whose body keeps rows of its own. A region that draws its order, in a round: what only reads is taken first, where S holds behind every operation but the last one. STAR: what is kept while cells are gathered by slants. -/
import Derived.Test.YtcgnhfiadeceiaaGreatDoorJG9
import Derived.Test.YtcgnhfiadeceiaaGreatDoorJG2
namespace Go.Proofs.YtcgnhfiadeceiaaGreatDoor.T
open Go.RowKit Go.Shelf
set_option linter.unusedSimpArgs false
set_option linter.unusedVariables false
attribute [local go_sem] Oper.semAt_some

theorem rowsL_mem {p y : Int} (hy : 0 ≤ y ∧ y < p - 1) : y ∈ rowsL p := by
  unfold rowsL
  exact List.mem_map.2 ⟨y.toNat, List.mem_range.2 (by omega), by omega⟩
set_option maxRecDepth 100000 in
set_option maxHeartbeats 2000000 in
theorem cellsDown_in (n : Nat) (hn : 4 ≤ n) (l g h lo mm : Nat) (k p s m col : Int) (hp : p ∈ prm) (hu : Und p s m) (hg1 : lo ≤ g) (hg2 : g < lo + mm) (hh1 : lo ≤ h) (hh2 : h < lo + mm) (W : World) (hW : lo + mm ≤ W.heap.size) (hL : Laid W) (J Jx : List Int → (Nat → Prop) → World → Prop) (o₀ : (Nat → Prop)) (ho₀ : ∀ b, o₀ b → b < W.heap.size)
    (hJ : FarO W.heap.size J) (hJx : FarO W.heap.size Jx) (hr1 : ∀ s o X, J s o X → RowO o X) (hr2 : ∀ s o X, Jx s o X → RowO o X)
    (hY : ∀ pre x o W1, J pre o W1 → x ∈ rowsL p → pre.length < p.toNat → W.heap.size ≤ W1.heap.size → YieldAt Fence.wide (n - 1) Tryz.prog l #[.agg #[.int .i64 col, .int .i64 x]] W1 fun e W' => ∃ o', FreshO o o' W1 ∧ SinceO W.heap.size o W1 W' ∧ ((e = .returned (.bool true) ∧ J (pre ++ [x]) o' W' ∧ Keep lo mm W1 W') ∨ (e = .returned (.bool false) ∧ Jx (pre ++ [x]) o' W' ∧ Keep lo mm W1 W')))
    (bg : Blk W g 93 #[.int .i64 k, .int .i64 p, .int .i64 s, .int .i64 m]) (bh : Blk W h 3 #[.int .i64 col]) (h0 : J [] o₀ W) :
    CallsIn Fence.wide n Tryz.prog 152 #[.func (.yield l) #[] #[], .pointer (some ⟨g, 0, none⟩), .pointer (some ⟨h, 0, none⟩)] W fun e W' => (∃ v, e = .returned v) ∧ ∃ o', FreshO o₀ o' W ∧ ((∃ ys, ys = rowsL p ∧ J ys o' W') ∨ (∃ pre, pre <+: rowsL p ∧ Jx pre o' W')) := by
  have HWk := Lib.hid (fun V hV => modWalk_any p 0 1 V hV (by omega) (by omega))
  refine callsIn_of_wp_marks Tryz.func152 rfl trivial ?_ rfl
  simp only [Tryz.ntmps152, List.size_toArray, List.length_cons, List.length_nil, Nat.reduceAdd, Nat.reduceSub, Array.replicate_succ, Array.replicate_zero, List.push_toArray, List.append_toArray, List.nil_append, List.cons_append]
  obtain ⟨W0, hW0⟩ : ∃ W0, W.alloc (.cells #[.func (.yield l) #[] #[]] 149) = W0 := ⟨_, rfl⟩
  have hB0 : Below W.heap.size W W0 := by rw [← hW0]; exact below_one W _
  have bY : Blk W0 W.heap.size 149 #[.func (.yield l) #[] #[]] := by rw [← hW0]; exact Blk.new W _ _
  have bg0 := bg.below hB0 bg.lt
  have bh0 := bh.below hB0 bh.lt
  have hL0 := hL.next hB0
  have hJ0 : J [] o₀ W0 := hJ.below h0 hB0
  have d1 : W0.cell? ⟨g, 1, none⟩ = some (.int .i64 p) := bg0.cell 1
  gi_wp2_with fail
  refine wpIn_scope_wide ?_
  gi_wp2_with fail
  refine wpIn_label ?_
  gi_wp2_with fail
  refine ⟨trivial, fun _ => by omega, (callsIn_wide.2 (HWk.out _ hL0)).mono ?_⟩
  rintro e v1 ⟨v, rfl, ⟨gf, lb, rfl, eg, eq, ⟨kk, hgo⟩⟩, hX⟩
  have bY1 := bY.below hX bY.lt
  have bg1 := bg0.below hX bg0.lt
  have bh1 := bh0.below hX bh0.lt
  have hJ1 : J [] o₀ v1 := hJ.below hJ0 hX
  have hlo := hX.size
  have hi := bY.lt
  clear eq hL0 bg0 bh0 d1 hJ0 HWk
  gi_wp2_with fail
  refine wpIn_rangeOwn1 rfl (by omega) (gf := gf) (lb := lb) rfl trivial eg (hgo _ (by omega)) (by omega) (Below.refl _ _) (fun _ => rfl)
    (fun pre V => (∃ o, J pre o V ∧ FreshO o₀ o W ∧ ∀ b, o b → b < W.heap.size ∨ v1.heap.size + (2 + kk) ≤ b) ∧ (∀ y ∈ pre, 0 ≤ y ∧ y < p - 1) ∧ Blk V W.heap.size 149 #[.func (.yield l) #[] #[]] ∧ Blk V g 93 #[.int .i64 k, .int .i64 p, .int .i64 s, .int .i64 m] ∧ Blk V h 3 #[.int .i64 col])
    (fun c pre V => c = .exit 0 ∧ ∃ q x o, pre = q ++ [x] ∧ FreshO o₀ o W ∧ (∀ b, o b → b < W.heap.size ∨ v1.heap.size + (2 + kk) ≤ b) ∧ ((¬ (0 ≤ x ∧ x < p - 1) ∧ J q o V) ∨ ((0 ≤ x ∧ x < p - 1) ∧ Jx pre o V)))
    ?hI ?hIx ⟨⟨o₀, hJ1, FreshO.refl _ _, fun b e => .inl (ho₀ b e)⟩, by simp, bY1, bg1, bh1⟩ ?a1 ?assign ?body ?done ?stop
  case hI =>
    refine Spares.and (fun s X Y row hs hg hr => ?_) ((spares_pure _ _ _).and ((spares_blk (by omega) _ (fun _ => _)).and ((spares_blk (by omega) _ (fun _ => _)).and (spares_blk (by omega) _ (fun _ => _)))))
    obtain ⟨o, h1, h2, h3⟩ := hs
    exact ⟨o, hJ s o X Y row h1 hg (fun r e => ⟨by have := hr r e; omega, fun e2 => by have := hr r e; have := h3 r e2; omega⟩), h2, h3⟩
  case hIx =>
    rintro c pre X Y row ⟨h1, q, x, o, h2, hf, hb, h3⟩ hg hr
    have hr' : ∀ r, row = some r → W.heap.size ≤ r ∧ ¬ o r := fun r e => ⟨by have := hr r e; omega, fun e2 => by have := hr r e; have := hb r e2; omega⟩
    exact ⟨h1, q, x, o, h2, hf, hb, h3.imp (fun h => ⟨h.1, hJ _ _ _ _ _ h.2 hg hr'⟩) (fun h => ⟨h.1, hJx _ _ _ _ _ h.2 hg hr'⟩)⟩
  case assign =>
    intro l' x V K hK
    gi_wp2
    exact hK
  case body =>
    rintro l' pre x V hsz ⟨⟨o, hj, hfo, hbo⟩, hr, bY, bg, bh⟩ hlen
    have hYo : ¬ o W.heap.size := fun e => by have := hbo _ e; omega
    have hlen2 : pre.length < p.toNat := by
      obtain ⟨e1, e2, _⟩ := rows_walk p hp
      rw [e1, List.length_append] at hlen
      simp at hlen
      omega
    have hn3 : 1 ≤ n - 1 - 1 := by omega
    have c0 := bg.cell 0
    have c1 := bg.cell 1
    have c2 := bg.cell 2
    have c3 := bg.cell 3
    simp only [List.getElem?_toArray, List.getElem?_cons_zero, List.getElem?_cons_succ] at c0 c1 c2 c3
    by_cases hx : 0 ≤ x ∧ x < p - 1
    · have HR := Lib.hid (fun V => (hasRow_any k p s m x hu V).mono fun _ _ h => And.intro (h.1.trans (ret_bool (decide_eq_true hx))) h.2)
      gi_wp2_with fail
      refine ⟨trivial, (CallsIn.inRound l' (callsIn_wide.2 (HR.out V))).mono ?_⟩
      rintro e V1 ⟨rfl, hB1⟩
      have hj1 : J pre o V1 := hJ.below hj hB1
      have hs1 := hB1.size
      have cY := (bY.below hB1 bY.lt).one
      have cH := (bh.below hB1 bh.lt).one
      obtain ⟨fn, tmps, asg, bdy, hy, hR⟩ := YieldAt.deep (m := n - 1 - 1 - 1) (hY pre x o V1 hj1 (rowsL_mem hx) hlen2 (by omega))
      gi_wp2
      refine hR.mono ?_
      rintro e W3 ⟨o', hf3, hS3, (⟨rfl, hJ3, hk3⟩ | ⟨rfl, hJx3, _⟩)⟩
      · gi_wp2
        have hS : SinceO W.heap.size o V W3 := (SinceO.below hB1).trans_ hS3
        have hbo' : ∀ b, o' b → b < W.heap.size ∨ v1.heap.size + (2 + kk) ≤ b := fun b e => (hf3 b e).elim (fun e => hbo b e) fun e => by omega
        have hfo' : FreshO o₀ o' W := hfo.trans (by omega) hf3
        have hkk : Keep lo mm V W3 := (Keep.below hB1 (by omega)).trans hk3
        refine ⟨hS.keep (by omega) hsz (fun b e => by have := hbo b e; omega), hS.keep (by omega) (by omega) (fun b e => by have := hbo b e; omega), ⟨o', hJ3, hfo', hbo'⟩, ?_, (hS.2 _ (Nat.le_refl _) bY.lt hYo).trans bY, hkk.blk bg hg1 hg2, hkk.blk bh hh1 hh2⟩
        intro y hy
        rcases List.mem_append.1 hy with h1 | h1
        · exact hr y h1
        · rw [List.mem_singleton.1 h1]; exact hx
      · gi_wp2
        have hS : SinceO W.heap.size o V W3 := (SinceO.below hB1).trans_ hS3
        have hbo' : ∀ b, o' b → b < W.heap.size ∨ v1.heap.size + (2 + kk) ≤ b := fun b e => (hf3 b e).elim (fun e => hbo b e) fun e => by omega
        have hfo' : FreshO o₀ o' W := hfo.trans (by omega) hf3
        exact ⟨hS.keep (by omega) hsz (fun b e => by have := hbo b e; omega), rfl, pre, x, o', rfl, hfo', hbo', .inr ⟨hx, hJx3⟩⟩
    · have HR := Lib.hid (fun V => (hasRow_any k p s m x hu V).mono fun _ _ h => And.intro (h.1.trans (ret_bool (decide_eq_false hx))) h.2)
      gi_wp2_with (refine ⟨trivial, ?_⟩; gi_at_call 153; refine (callsIn_wide.2 (HR.out _)).mono ?_; rintro e V1 ⟨rfl, hB1⟩)
      refine ⟨fun _ h => (by cases h), ?_⟩
      gi_wp2
      have hS1 : Since W.heap.size V V1 := Since.below hB1
      exact ⟨hS1.keep (by omega) hsz, rfl, pre, x, o, rfl, hfo, hbo, .inl ⟨hx, hJ.below hj hB1⟩⟩
  case done =>
    rintro D xs V hD rfl ⟨_, hr, _⟩ _
    exfalso
    obtain ⟨e1, _, _⟩ := rows_walk p hp
    have := hr (p - 1) (by rw [e1]; simp)
    omega
  case stop =>
    rintro D c pre V hD hSp ⟨rfl, q, x, o, rfl, hfo, hbo, hq⟩ hK
    gi_wp2
    rw [Exit.noGoto_normal]
    refine ⟨by simp, .inl ⟨_, _, rfl, run_takeDeferred hK, ?_⟩⟩
    refine ⟨_, results_none rfl _ _ _, ⟨_, rfl⟩, o, hfo, ?_⟩
    rcases hq with ⟨hx, hq⟩ | ⟨hx, hq⟩
    · exact .inl ⟨q, rows_left p hp q x hSp hx, hJ.put hq (by omega) ((hr1 _ _ _ hq).ne hK) _⟩
    · exact .inr ⟨_, rows_some p hp q x hSp hx, hJx.put hq (by omega) ((hr2 _ _ _ hq).ne hK) _⟩

/-- What goes over places of the column col, and is no nil. -/
def PlacesO (lo : Nat) (col : Int) (zs : List Int) (N : Nat) (v : Value) (w : World) : Prop :=
  ∃ gf lb, v = .func (.func gf) #[] lb ∧ (∀ args W, (callFunc gf args).run Tryz.prog W = .ok (.enter gf args) W) ∧ (∀ W, (binOp .eql 126 v .nilFunc).run Tryz.prog W = .ok (.bool false) W) ∧
    ∀ n, 4 ≤ n → SeqT Fence.wide n Tryz.prog gf lb (fun x : Int => #[.agg #[.int .i64 col, .int .i64 x]]) (fun _ x _ => x ∈ zs) (Keep lo (w.heap.size - lo)) (fun ys => ys = zs) (fun pre => pre <+: zs) N w

set_option maxHeartbeats 400000 in
theorem cells1_inO (n l : Nat) (J Jx : List Int → (Nat → Prop) → World → Prop) (o₀ : (Nat → Prop)) (W : World) (h0 : J [] o₀ W) :
    CallsIn Fence.wide n Tryz.prog 131 (#[.func (.yield l) #[] #[]] ++ #[]) W fun e W' => (∃ v, e = .returned v) ∧ ∃ o', FreshO o₀ o' W ∧ ((∃ ys, ys = [] ∧ J ys o' W') ∨ (∃ pre, pre <+: [] ∧ Jx pre o' W')) := by
  refine callsIn_of_wp Tryz.func131 rfl trivial ?_ rfl
  simp only [Tryz.ntmps131, List.size_toArray, List.length_cons, List.length_nil, Nat.reduceAdd, Nat.reduceSub, Array.replicate_succ, Array.replicate_zero, List.push_toArray, List.append_toArray, List.nil_append, List.cons_append]
  gi_wp2
  go_end0
  exact ⟨⟨_, rfl⟩, o₀, FreshO.refl _ _, .inl ⟨_, rfl, h0⟩⟩

set_option maxHeartbeats 400000 in
theorem down_anyO (k p s m col : Int) (hp : p ∈ prm) (hu : Und p s m) (w : World) (hL : Laid w) :
    Calls Tryz.prog 130 #[.agg #[.int .i64 k, .int .i64 p, .int .i64 s, .int .i64 m], .int .i64 col] w fun e w' => ∃ v, e = .returned v ∧ PlacesO w.heap.size col (rowsL p) p.toNat v w' ∧ Below w.heap.size w w' := by
  have hmf := make_func
  go_enter Tryz.func130, Tryz.ntmps130
  go_wp2
  go_ret
  have hB := below_two w (.cells #[.int .i64 k, .int .i64 p, .int .i64 s, .int .i64 m] 93) (.cells #[.int .i64 col] 3)
  have bg := (Blk.new w 93 #[.int .i64 k, .int .i64 p, .int .i64 s, .int .i64 m]).alloc (.cells #[.int .i64 col] 3)
  have bh := Blk.second w (.cells #[.int .i64 k, .int .i64 p, .int .i64 s, .int .i64 m] 93) 3 #[.int .i64 col]
  have hL2 := hL.next hB
  refine ⟨_, rfl, ⟨_, _, rfl, enter_down1, eql_down1 _ _, ?_⟩, hB⟩
  intro n hn l J Jx W o₀ hW ho₀ hJ hJx hr1 hr2 hY h0
  exact cellsDown_in n hn l _ _ w.heap.size _ k p s m col hp hu (Nat.le_refl _) (by simp; omega) (by omega) (by simp; omega) W (by have := hW.size; simp at this ⊢; omega) (hL2.next hW) J Jx o₀ ho₀ hJ hJx hr1 hr2 hY (bg.below hW bg.lt) (bh.below hW bh.lt) h0

theorem PlacesO.less {lo lo' N : Nat} {col : Int} {zs : List Int} {v : Value} {w : World} (h : PlacesO lo col zs N v w) (hl : lo' ≤ lo) (hw : lo ≤ w.heap.size) : PlacesO lo' col zs N v w := by
  obtain ⟨gf, lb, e, eg, eq, hg⟩ := h
  exact ⟨gf, lb, e, eg, eq, fun n hn l J Jx W o₀ hW ho₀ hJ hJx hr1 hr2 hY h0 => hg n hn l J Jx W o₀ hW ho₀ hJ hJx hr1 hr2 (fun pre x o W1 hj hok hl' hs => (hY pre x o W1 hj hok hl' hs).mono fun _ _ ⟨o', hf, hS, h⟩ => ⟨o', hf, hS, h.imp (fun ⟨h1, h2, h3⟩ => ⟨h1, h2, h3.less hl (by omega)⟩) (fun ⟨h1, h2, h3⟩ => ⟨h1, h2, h3.less hl (by omega)⟩)⟩) h0⟩

theorem none_placesO (lo N : Nat) (x : Int) (w : World) : PlacesO lo x [] N (.func (.func 131) #[] #[]) w :=
  ⟨_, _, rfl, enter_cells1, eql_cells1, fun n _ l J Jx W o₀ _ _ _ _ _ _ _ h0 => cells1_inO n l J Jx o₀ W h0⟩

set_option maxHeartbeats 1000000 in
theorem shapeCells_anyO (k p x : Int) (w : World) (hL : Laid w) : Calls Tryz.prog 106 #[.agg #[.int .i64 k, .int .i64 p], .int .i64 x] w fun e w' => ∃ v, e = .returned v ∧ (∃ zs, Column k p x zs ∧ PlacesO w.heap.size x zs p.toNat v w') ∧ Below w.heap.size w w' := by
  have hB := below_one w (.cells #[.int .i64 k, .int .i64 p] 37)
  by_cases hR : RightC k p
  · by_cases hb : HasCol k p x
    · have HT := Lib.hid (toldS_yes 129 130 enter_hasColumn enter_down k p x hR _ (fun W hL => (hasColumn_any k p _ _ x hR.und W).mono fun _ _ h => ⟨h.1.trans (ret_bool (decide_eq_true hb)), h.2⟩)
        (fun v w' => PlacesO w.heap.size x (rowsL p) p.toNat v w') (fun W hL hs => (down_anyO k p _ _ x hR.2 hR.und W hL).mono fun _ _ ⟨v, h1, h2, h3⟩ => ⟨v, h1, h2.less (by have := hB.size; omega) h3.size, h3⟩) (hL.next hB))
      have HC : Hid (Column k p x (rowsL p)) := .inl ⟨hR, hb, rfl⟩
      clear hb hR
      generalize rowsL p = zs at *
      go_enter Tryz.func106, Tryz.ntmps106
      go_wp2_with (go_at_call 128; refine HT.out.mono ?_; rintro e w1 ⟨v, rfl, hv, hB1⟩)
      go_ret
      exact ⟨_, rfl, ⟨_, HC.out, hv⟩, below_in hB hB1⟩
    · have HT := Lib.hid (toldS_out 129 130 enter_hasColumn k p x hR (fun W hL => (hasColumn_any k p _ _ x hR.und W).mono fun _ _ h => ⟨h.1.trans (ret_bool (decide_eq_false hb)), h.2⟩) _ (hL.next hB))
      have HC : Hid (Column k p x []) := .inr ⟨fun h => hb h.2, rfl⟩
      clear hb hR
      go_enter Tryz.func106, Tryz.ntmps106
      go_wp2_with (go_at_call 128; refine HT.out.mono ?_; rintro e w1 ⟨rfl, hB1⟩)
      go_ret
      exact ⟨_, rfl, ⟨_, HC.out, none_placesO _ _ _ _⟩, below_in hB hB1⟩
  · have HT := Lib.hid (toldS_no 129 130 k p x hR _ (hL.next hB))
    have HC : Hid (Column k p x []) := .inr ⟨fun h => hR h.1, rfl⟩
    clear hR
    go_enter Tryz.func106, Tryz.ntmps106
    go_wp2_with (go_at_call 128; refine HT.out.mono ?_; rintro e w1 ⟨rfl, hB1⟩)
    go_ret
    exact ⟨_, rfl, ⟨_, HC.out, none_placesO _ _ _ _⟩, below_in hB hB1⟩
end Go.Proofs.YtcgnhfiadeceiaaGreatDoor.T

namespace Go.Proofs.YtcgnhfiadeceiaaGreatDoor.T
open Go.RowKit Go.Shelf
set_option linter.unusedVariables false
set_option linter.unusedSimpArgs false

/-- Whatever order is picked from here on, S holds behind each operation. -/
def anyHG (F : Fence) (n : Nat) (P : Program) (md : Region.Mode) (ops : Array Oper) (Q : Exit → Act → World → Prop) (S : World → Prop) (m : Nat) : Nat → Array Bool → Act → World → Prop
  | 0, listed, a, w => Region.ready md ops listed = [] ∧ Q .normal a w
  | k + 1, listed, a, w => (Region.ready md ops listed = [] → Q .normal a w) ∧ ∀ i ∈ Region.ready md ops listed, wpOpIn F n P ops Q i (fun a' w' => (i = m ∨ S w') ∧ anyHG F n P md ops Q S m k (listed.setIfInBounds i true) a' w') a w
section
variable {F : Fence} {n : Nat} {P : Program} {md : Region.Mode} {ops : Array Oper} {Q : Exit → Act → World → Prop} {S : World → Prop} {m : Nat}
theorem anyHG.any : ∀ (k : Nat) (listed : Array Bool) (a : Act) (w : World), anyHG F n P md ops Q S m k listed a w → wpAnyIn F n P md ops Q k listed a w
  | 0, _, _, _, h => h
  | k + 1, _, _, _, h => ⟨h.1, fun i hi => wpOpIn_mono (fun a' w' h' => anyHG.any k _ a' w' h'.2) (h.2 i hi)⟩
theorem anyHG_first {i : Nat} {oi : Oper} {v : Value} (hnd : ∀ (i : Nat) (o : Oper), ops[i]? = some o → notDefer o.op = true) (hi : ops[i]? = some oi) (hsel : ∀ (j : Nat) (o : Oper) cs b, ops[j]? = some o → o.op ≠ .select cs b)
    (hQ : ∀ c a w, Q (.panic c) (a.put oi.dst v) w → Q (.panic c) a w) (hm : ∀ om, ops[m]? = some om → (om.after.any fun e => Region.binds md e && e.on == i) = true) :
    ∀ (k : Nat) (listed : Array Bool) (a : Act) (w : World),
      (∀ j oj, ops[j]? = some oj → j ≠ i → listed.getD j true = false → (∀ e ∈ oj.after, Region.binds md e = true → e.on ≠ i) → oi.apart ops oj = true) →
      i ∈ Region.ready md ops listed → Leaves P ops S oi v a → S w →
      anyHG F n P md ops Q S m k (listed.setIfInBounds i true) (a.put oi.dst v) w → anyHG F n P md ops Q S m (k + 1) listed a w := by
  intro k
  induction k with
  | zero =>
    intro listed a w _ hr hy hS H
    refine ⟨fun h => (by rw [h] at hr; cases hr), fun j hj => ?_⟩
    by_cases hji : j = i
    · subst hji; exact hy.op (hnd _ _ hi) hi hS ⟨.inr hS, H⟩
    · have := ready_mono hj hji
      rw [H.1] at this
      cases this
  | succ k ih =>
    intro listed a w hfree hr hy hS H
    refine ⟨fun h => (by rw [h] at hr; cases hr), fun j hj => ?_⟩
    by_cases hji : j = i
    · subst hji; exact hy.op (hnd _ _ hi) hi hS ⟨.inr hS, H⟩
    · have h1 := H.2 j (ready_mono hj hji)
      obtain ⟨hjun, oj, hoj, hall⟩ := mem_ready.1 hj
      have hnot : ∀ e ∈ oj.after, Region.binds md e = true → e.on ≠ i := fun e he hb heq => by
        have h1 := hall e he hb
        have h0 := (mem_ready.1 hr).1
        rw [heq] at h1
        rcases Nat.lt_or_ge i listed.size with h' | h'
        · simp [h'] at h0 h1; rw [h0] at h1; cases h1
        · simp [Array.getElem?_eq_none h'] at h1
      have h2 := Leaves.put (hnd _ _ hoj) hoj (hfree j oj hoj hji hjun hnot) (fun cs b => hsel i oi cs b hi) (fun cs b => hsel j oj cs b hoj) hQ hy h1
      have hjm : j ≠ m := fun e => by
        subst e
        have h1 := hm oj hoj
        rw [← Array.any_toList, List.any_eq_true] at h1
        obtain ⟨e, he, h2⟩ := h1
        rw [Bool.and_eq_true] at h2
        exact hnot e (Array.mem_toList_iff.1 he) h2.1 (by simpa using h2.2)
      refine wpOpIn_mono (fun a' w' h3 => ⟨h3.2.1, ih (listed.setIfInBounds j true) a' w' (fun x ox hx hxi hun hno => hfree x ox hx hxi ?_ hno) (ready_mono hr (Ne.symm hji)) h3.1 (h3.2.1.resolve_left hjm) ?_⟩) h2
      · by_cases hjx : j = x
        · subst hjx; exact hjun
        · rw [getD_set_ne true hjx] at hun; exact hun
      · rw [Array.setIfInBounds_comm _ _ hji]
        exact h3.2.2
theorem anyHG_take {i : Nat} {oi : Oper} {d : Tmp} {v : Value} {k : Nat} {listed : Array Bool} {a : Act} {w : World} (hnd : (ops.toList.all fun o => notDefer o.op) = true) (hi : ops[i]? = some oi)
    (hs : Region.noSelect ops = true) (hf : Region.free md ops listed i = true) (hr : (Region.ready md ops listed).contains i = true) (hd : oi.dst = some d)
    (hm : (match ops[m]? with | some om => om.after.any fun e => Region.binds md e && e.on == i | none => true) = true) (hQ : ∀ c a w, Q (.panic c) (a.put oi.dst v) w → Q (.panic c) a w) (hy : Leaves P ops S oi v a) (hS : S w)
    (h : anyHG F n P md ops Q S m k (listed.setIfInBounds i true) { tmps := a.tmps.setIfInBounds d v, defers := a.defers } w) : anyHG F n P md ops Q S m (k + 1) listed a w :=
  anyHG_first (all_nd hnd) hi (Region.noSelect_spec hs) hQ (fun om h => by rw [h] at hm; exact hm) k listed a w (Region.free_spec hi hf) (by simpa using hr) hy hS (by unfold Act.put; rw [hd]; exact h)
theorem anyHG_one {i : Nat} {o : Oper} {k : Nat} {listed : Array Bool} {a : Act} {w : World} (hr : Region.ready md ops listed = [i]) (ho : ops[i]? = some o) (hnd : (ops.toList.all fun o => notDefer o.op) = true) (hw : Region.wanted o (yielded ops a.tmps) = true)
    (h : Oper.wpIn F n P o a w (fun a' w' => (i = m ∨ S w') ∧ anyHG F n P md ops Q S m k (listed.setIfInBounds i true) a' w') Q) : anyHG F n P md ops Q S m (k + 1) listed a w :=
  ⟨fun h0 => (by rw [hr] at h0; cases h0), fun j hj => by
    rw [hr] at hj
    obtain rfl := List.mem_singleton.1 hj
    unfold wpOpIn
    rw [ho]
    simp only [hw, if_true]
    exact h⟩
theorem anyHG_done {listed : Array Bool} {a : Act} {w : World} (hr : Region.ready md ops listed = []) (h : Q .normal a w) : ∀ k, anyHG F n P md ops Q S m k listed a w
  | 0 => ⟨hr, h⟩
  | _ + 1 => ⟨fun _ => h, by rw [hr]; simp⟩
theorem region_HG {id : Nat} {a : Act} {w : World} (hm : P.follows .mixedOrders = true) (h : anyHG F n P .any ops Q S m ops.size (Array.replicate ops.size false) a w.drew) : (Code.region id ops true).wpIn F n P Q a w :=
  wpIn_region_any hm (anyHG.any _ _ _ _ h)
end
end Go.Proofs.YtcgnhfiadeceiaaGreatDoor.T

namespace Go.Proofs.YtcgnhfiadeceiaaGreatDoor.T
open Go.RowKit Go.Shelf Go.Proofs.YtcgnhfiadeceiaaGreatDoor.C Go.Proofs.YtcgnhfiadeceiaaGreatDoor.E
set_option linter.unusedSimpArgs false
set_option linter.unusedVariables false

section
variable {B lo mm : Nat} {X Y Z : World} {o o' : (Nat → Prop)}
theorem farO_since {β : Type} {B' : Nat} (V : World) (o₀ : (Nat → Prop)) (hB : V.heap.size ≤ B') : FarO B' (fun (_ : β) (_ : (Nat → Prop)) X => SinceO B o₀ V X) := fun s o X Y row hs hg hr =>
  ⟨Nat.le_trans hs.1 hg.size, fun b h1 h2 h3 => (hg.block b (by have := hs.1; omega) (fun e => by have := (hr b e.symm).1; omega)).trans (hs.2 b h1 h2 h3)⟩
theorem _root_.Go.Proofs.YtcgnhfiadeceiaaGreatDoor.Left.sinceT {base : Nat} {Ds : List Nat} (h : Left base X Ds) (hs : SinceO B o X Y) (hB : B ≤ base) (hr : RowO o X) : Left base Y Ds :=
  ⟨h.1, fun D hD => ⟨(h.2 D hD).1, (hs.2 D (Nat.le_trans hB (h.2 D hD).1) (h.lt hD) (hr.ne (h.2 D hD).2)).trans (h.2 D hD).2⟩⟩
theorem _root_.Go.Proofs.YtcgnhfiadeceiaaGreatDoor.Left.moreT {base : Nat} {Ds : List Nat} (h : Left base X Ds) (hs : SinceO B o X Y) (hB : B ≤ base) (hr : RowO o X) {D : Nat} (hb : base ≤ D) (hn : X.heap.size ≤ D) (hD : Y.heap[D]? = some (.deferred (some []))) : Left base Y (D :: Ds) := by
  refine ⟨List.nodup_cons.2 ⟨fun hm => by have := h.lt hm; omega, h.1⟩, fun E hE => ?_⟩
  rcases List.mem_cons.1 hE with rfl | hE
  · exact ⟨hb, hD⟩
  · exact (h.sinceT hs hB hr).2 E hE
end
theorem leaves_farT {β : Type} {F : Fence} {n : Nat} {P : Program} {fn : Func} {tmps : Array Value} {R : Ending → World → Prop} {B : Nat} {I : β → (Nat → Prop) → World → Prop} (hI : FarO B I) (s : β) (o : (Nat → Prop)) (hr : ∀ X, I s o X → RowO o X) :
    ∀ (Ds : List Nat) (W : World), Left B W Ds → I s o W → (∀ W' : World, I s o W' → LeavesInM F n P fn tmps R [] .returning W') → LeavesInM F n P fn tmps R (leftOf Ds) .returning W
  | [], W, _, hs, h => h W hs
  | D :: Ds, W, hL, hs, h => by
    obtain ⟨hb, hD⟩ := hL.2 D (.head _)
    have hn := List.nodup_cons.1 hL.1
    refine ⟨by simp, .inl ⟨_, _, rfl, run_takeDeferred hD, ?_⟩⟩
    refine leaves_farT hI s o hr Ds _ ⟨hn.2, fun E hE => ⟨(hL.2 E (.tail _ hE)).1, ?_⟩⟩ (hI.put hs hb ((hr _ hs).ne hD) _) h
    have hne : E ≠ D := fun e => hn.1 (by rw [← e]; exact hE)
    exact (World.putObj_heap_other hne).trans (hL.2 E (.tail _ hE)).2

/-- The places of a slant among some. -/
def bySl (p : Int) (n : Nat) (done : List (Int × Int)) : List (Int × Int) := done.filter fun z => decide ((z.2 - z.1) % p = (n : Int))
theorem bySl_snoc (p : Int) (n : Nat) (done : List (Int × Int)) (z : Int × Int) : bySl p n (done ++ [z]) = if (z.2 - z.1) % p = (n : Int) then bySl p n done ++ [z] else bySl p n done := by
  unfold bySl
  rw [List.filter_append]
  by_cases h : (z.2 - z.1) % p = (n : Int)
  · rw [if_pos h, List.filter_cons_of_pos (by simpa using h)]; rfl
  · rw [if_neg h, List.filter_cons_of_neg (by simpa using h)]; simp
theorem bySl_len (p : Int) (n : Nat) (done : List (Int × Int)) : (bySl p n done).length ≤ done.length := List.length_filter_le _ _
/-- The slot n of a row of slices. -/
def slotV (vs : List Value) (n : Nat) : Value := vs[n]?.getD undef
/-- The blocks of all slots. -/
def ownsB (vs : List Value) (b : Nat) : Prop := ∃ n, n < 17 ∧ (slotV vs n).ownBlock = some b
/-- Cells gathered by slants: the slots lie in block gb, each is a row of the call's own, no two of them one. -/
structure Gat (B base : Nat) (p : Int) (css : List (List (List UInt8))) (gb : Nat) (done : List (Int × Int)) (X : World) (vs : List Value) : Prop where
  blk : Blk X gb 103 vs.toArray
  len : vs.length = 17
  row : ∀ n, n < 17 → RowM (· < B) X base (slotV vs n) ((bySl p n done).map (cellI css))
  apart : ∀ n m b, n < 17 → m < 17 → (slotV vs n).ownBlock = some b → (slotV vs m).ownBlock = some b → n = m
section
variable {B base : Nat} {p : Int} {css : List (List (List UInt8))} {gb : Nat} {done : List (Int × Int)} {X Y : World} {vs : List Value}
theorem Gat.kept (h : Gat B base p css gb done X vs) {row : Option Nat} (hg : X.grownBy Y row) (hr : ∀ r, row = some r → r ≠ gb ∧ ¬ ownsB vs r ∧ B ≤ r) : Gat B base p css gb done Y vs where
  blk := h.blk.grown hg fun e => (hr _ e.symm).1 rfl
  len := h.len
  row := fun n hn => RowG.kept (h.row n hn) hg (by
    cases hrow : row with
    | none => exact (Option.eq_none_or_eq_some (slotV vs n).ownBlock).imp id (fun ⟨x, hx⟩ => by rw [hx]; simp)
    | some r => exact .inr (fun e => (hr r hrow).2.1 ⟨n, hn, e⟩)) (fun b hb e => by have := (hr b e.symm).2.2; omega)
  apart := h.apart
theorem Gat.below (h : Gat B base p css gb done X vs) (hb : Below X.heap.size X Y) : Gat B base p css gb done Y vs := h.kept (row := none) (grown_below hb) fun r e => by cases e
theorem Gat.far {β : Type} {B' : Nat} (hgb : gb < B') (hB : B ≤ B') (f : β → List (Int × Int)) : FarO B' (fun (s : β) o X => ∃ vs, Gat B base p css gb (f s) X vs ∧ o = ownsB vs) := fun s o X Y row ⟨vs, hs, ho⟩ hg hr =>
  ⟨vs, hs.kept hg fun r e => ⟨by have := (hr r e).1; omega, by rw [← ho]; exact (hr r e).2, by have := (hr r e).1; omega⟩, ho⟩
theorem Gat.rowO (h : Gat B base p css gb done X vs) : RowO (ownsB vs) X := fun b ⟨n, hn, e⟩ => by
  obtain ⟨us, ho, _⟩ := h.row n hn
  rcases ho.2 with ⟨h1, _⟩ | ⟨g, cap, cur, h1, _, hg, _⟩
  · rw [h1] at e; cases e
  · rw [h1] at e
    injection e with e
    have e' : g = b := e
    subst e'
    exact ⟨_, _, _, hg⟩
theorem Gat.base_le (h : Gat B base p css gb done X vs) {b : Nat} (hb : ownsB vs b) : base ≤ b := by
  obtain ⟨n, hn, e⟩ := hb
  exact RowG.own_le (h.row n hn) b e
theorem slot_set (vs : List Value) (n : Nat) (v : Value) (hn : n < vs.length) (m : Nat) : slotV (vs.set n v) m = if m = n then v else slotV vs m := by
  unfold slotV
  by_cases h : m = n
  · subst h
    rw [if_pos rfl, List.getElem?_set_self hn]; rfl
  · rw [if_neg h, List.getElem?_set_ne (Ne.symm h)]
/-- A cell more, in its slot. -/
theorem Gat.push (h : Gat B base p css gb done X vs) (hgb : gb < base) (hB : B ≤ gb) {z : Int × Int} {n : Nat} (hn : n < 17) (hz : (z.2 - z.1) % p = (n : Int)) {v' : Value} {w' : World} (hrow : RowM (· < B) w' base v' ((bySl p n done).map (cellI css) ++ [cellI css z])) (hg : X.grownBy w' (slotV vs n).ownBlock)
    (ho : v'.ownBlock = (slotV vs n).ownBlock ∨ v'.ownBlock = some X.heap.size) :
    Gat B base p css gb (done ++ [z]) (w'.setCell ⟨gb, n, none⟩ v') (vs.set n v') ∧ FreshO (ownsB vs) (ownsB (vs.set n v')) X := by
  have hset : w'.grownBy (w'.setCell ⟨gb, n, none⟩ v') (some gb) := ⟨rfl, rfl, rfl, by simp, fun k _ hk => Below.heap_setCell w' _ _ k (fun e => hk (by rw [e]))⟩
  have hlt : ∀ m b, m < 17 → (slotV vs m).ownBlock = some b → b < X.heap.size := fun m b hm e => by
    obtain ⟨us, hos, _⟩ := h.row m hm
    exact (World.ownsRow.lt hos b e).2
  have hfr : FreshO (ownsB vs) (ownsB (vs.set n v')) X := fun b ⟨m, hm, e⟩ => by
    rw [slot_set vs n v' (by rw [h.len]; exact hn)] at e
    by_cases hmn : m = n
    · rw [if_pos hmn] at e
      rcases ho with ho | ho
      · rw [ho] at e; exact .inl ⟨n, hn, e⟩
      · rw [ho] at e; injection e with e; exact .inr (by omega)
    · rw [if_neg hmn] at e
      exact .inl ⟨m, hm, e⟩
  refine ⟨⟨?_, by rw [List.length_set]; exact h.len, fun m hm => ?_, fun m k b hm hk e1 e2 => ?_⟩, hfr⟩
  · have hb : Blk w' gb 103 vs.toArray := h.blk.grown hg fun e => by
      have := RowG.own_le (h.row n hn) gb e.symm
      omega
    have := hb.set_ n v'
    rwa [List.setIfInBounds_toArray] at this
  · rw [slot_set vs n v' (by rw [h.len]; exact hn), bySl_snoc]
    by_cases hmn : m = n
    · subst hmn
      rw [if_pos rfl, if_pos hz, List.map_append]
      refine RowG.kept hrow hset ?_ (fun b hb e => by injection e with e; omega)
      rcases ho with ho | ho
      · rw [ho]
        cases hc : (slotV vs m).ownBlock with
        | none => exact .inl rfl
        | some c => exact .inr (fun e => by injection e with e; have := RowG.own_le (h.row m hn) c hc; omega)
      · rw [ho]; exact .inr (fun e => by injection e with e; have := h.blk.lt; omega)
    · rw [if_neg hmn, if_neg (fun e => hmn (by omega))]
      refine RowG.kept (RowG.kept (h.row m hm) hg ?_ (fun b hb e => ?_)) hset ?_ (fun b hb e => by injection e with e; omega)
      · cases hc : (slotV vs m).ownBlock with
        | none => exact .inl rfl
        | some c => exact .inr (fun e => hmn (h.apart m n c hm hn hc e.symm))
      · have := RowG.own_le (h.row n hn) b e.symm
        omega
      · cases hc : (slotV vs m).ownBlock with
        | none => exact .inl rfl
        | some c => exact .inr (fun e => by injection e with e; have := RowG.own_le (h.row m hm) c hc; omega)
  · rw [slot_set vs n v' (by rw [h.len]; exact hn)] at e1 e2
    by_cases h1 : m = n
    · by_cases h2 : k = n
      · rw [h1, h2]
      · rw [if_pos h1] at e1
        rw [if_neg h2] at e2
        rcases ho with ho | ho
        · rw [ho] at e1
          exact absurd (h.apart n k b hn hk e1 e2).symm h2
        · rw [ho] at e1
          injection e1 with e1
          have := hlt k b hk e2
          omega
    · by_cases h2 : k = n
      · rw [if_neg h1] at e1
        rw [if_pos h2] at e2
        rcases ho with ho | ho
        · rw [ho] at e2
          exact absurd (h.apart m n b hm hn e1 e2) h1
        · rw [ho] at e2
          injection e2 with e2
          have := hlt m b hm e1
          omega
      · rw [if_neg h1] at e1
        rw [if_neg h2] at e2
        exact h.apart m k b hm hk e1 e2
theorem slot_at (h : Gat B base p css gb done X vs) {n : Nat} (hn : n < 17) : vs[n]? = some (slotV vs n) := by
  unfold slotV
  rw [List.getElem?_eq_getElem (by rw [h.len]; exact hn)]
  rfl
theorem slot_cell (h : Gat B base p css gb done X vs) {n : Nat} (hn : n < 17) : X.cell? ⟨gb, n, none⟩ = some (slotV vs n) := by
  rw [h.blk.cell n, List.getElem?_toArray, slot_at h hn]
end
/-- Nothing gathered yet. -/
theorem gat_none (B base : Nat) (p : Int) (css : List (List (List UInt8))) (gb : Nat) (X : World) (hb : Blk X gb 103 (List.replicate 17 (.slice none 0 0)).toArray) : Gat B base p css gb [] X (List.replicate 17 (.slice none 0 0)) := by
  have hs : ∀ n, n < 17 → slotV (List.replicate 17 (.slice none 0 0)) n = .slice none 0 0 := fun n hn => by
    unfold slotV
    rw [List.getElem?_replicate, if_pos hn]
    rfl
  refine ⟨hb, by simp, fun n hn => ?_, fun n m b hn hm e _ => ?_⟩
  · rw [hs n hn]
    exact RowG.nil _ _ _ _ _ _
  · rw [hs n hn] at e
    cases e
end Go.Proofs.YtcgnhfiadeceiaaGreatDoor.T

