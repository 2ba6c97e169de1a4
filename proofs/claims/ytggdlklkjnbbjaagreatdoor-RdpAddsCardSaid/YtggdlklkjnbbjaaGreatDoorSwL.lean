/- The places of a column: the function that Cells hands back goes over them. -/
import Derived.Test.YtggdlklkjnbbjaaGreatDoorSwK
namespace Go.Proofs.YtggdlklkjnbbjaaGreatDoor
open Go.RowKit Go.Shelf
set_option linter.unusedSimpArgs false
set_option linter.unusedVariables false
attribute [local go_sem] Oper.semAt_some

/-- The rows of a code. -/
def rowsL (p : Int) : List Int := (List.range (p - 1).toNat).map fun (i : Nat) => (i : Int)
theorem rows_walk : ∀ p ∈ prm, walkN p 0 1 = rowsL p ++ [p - 1] ∧ ((rowsL p).length : Int) = p - 1 ∧ (∀ y ∈ rowsL p, 0 ≤ y ∧ y < p - 1) := by decide +kernel
/-- What comes of a walk down before a row that is none: all rows. -/
theorem rows_left (p : Int) (hp : p ∈ prm) (pre : List Int) (x : Int) (h : pre ++ [x] <+: walkN p 0 1) (hx : ¬ (0 ≤ x ∧ x < p - 1)) : pre = rowsL p := by
  obtain ⟨hw, hl, hr⟩ := rows_walk p hp
  rw [hw] at h
  obtain ⟨t, ht⟩ := h
  rcases List.eq_nil_or_concat t with rfl | ⟨t', z, rfl⟩
  · rw [List.append_nil] at ht
    exact (List.append_inj' ht rfl).1
  · exfalso
    rw [List.concat_eq_append, ← List.append_assoc] at ht
    have h2 := (List.append_inj' ht rfl).1
    exact hx (hr x (by rw [← h2]; simp))
theorem rows_some (p : Int) (hp : p ∈ prm) (pre : List Int) (x : Int) (h : pre ++ [x] <+: walkN p 0 1) (hx : 0 ≤ x ∧ x < p - 1) : pre ++ [x] <+: rowsL p := by
  obtain ⟨hw, hl, hr⟩ := rows_walk p hp
  rw [hw] at h
  rcases List.prefix_concat_iff.1 h with e | h2
  · exfalso
    have := (List.append_inj' e rfl).2
    injection this with this _
    omega
  · exact h2

set_option maxRecDepth 100000 in
set_option maxHeartbeats 2000000 in
theorem down1_in (n : Nat) (hn : 4 ≤ n) (l g h lo mm : Nat) (k p s m col : Int) (hp : p ∈ prm) (hu : Und p s m) (hg1 : lo ≤ g) (hg2 : g < lo + mm) (hh1 : lo ≤ h) (hh2 : h < lo + mm) (W : World) (hW : lo + mm ≤ W.heap.size) (hL : Laid W) (J Jx : List Int → World → Prop)
    (hJ : Far W.heap.size J) (hJx : Far W.heap.size Jx)
    (hY : ∀ pre x W1, J pre W1 → pre.length < p.toNat → W.heap.size ≤ W1.heap.size → YieldAt Fence.wide (n - 1) Tryz.prog l #[.agg #[.int .i64 col, .int .i64 x]] W1 fun e W' => (e = .returned (.bool true) ∧ J (pre ++ [x]) W' ∧ Keep lo mm W1 W' ∧ Since W.heap.size W1 W') ∨ (e = .returned (.bool false) ∧ Jx (pre ++ [x]) W' ∧ Since W.heap.size W1 W'))
    (bg : Blk W g 130 #[.int .i64 k, .int .i64 p, .int .i64 s, .int .i64 m]) (bh : Blk W h 3 #[.int .i64 col]) (h0 : J [] W) :
    CallsIn Fence.wide n Tryz.prog 236 #[.func (.yield l) #[] #[], .pointer (some ⟨g, 0, none⟩), .pointer (some ⟨h, 0, none⟩)] W fun e W' => (∃ v, e = .returned v) ∧ ((∃ ys, ys = rowsL p ∧ J ys W') ∨ (∃ pre, pre <+: rowsL p ∧ Jx pre W')) := by
  have HWk := Lib.hid (fun V hV => modWalk_any p 0 1 V hV (by omega) (by omega))
  refine callsIn_of_wp_marks Tryz.func236 rfl trivial ?_ rfl
  simp only [Tryz.ntmps236, List.size_toArray, List.length_cons, List.length_nil, Nat.reduceAdd, Nat.reduceSub, Array.replicate_succ, Array.replicate_zero, List.push_toArray, List.append_toArray, List.nil_append, List.cons_append]
  obtain ⟨W0, hW0⟩ : ∃ W0, W.alloc (.cells #[.func (.yield l) #[] #[]] 122) = W0 := ⟨_, rfl⟩
  have hB0 : Below W.heap.size W W0 := by rw [← hW0]; exact below_one W _
  have bY : Blk W0 W.heap.size 122 #[.func (.yield l) #[] #[]] := by rw [← hW0]; exact Blk.new W _ _
  have bg0 := bg.below hB0 bg.lt
  have bh0 := bh.below hB0 bh.lt
  have hL0 := hL.next hB0
  have hJ0 : J [] W0 := hJ.below h0 hB0
  have d1 : W0.cell? ⟨g, 1, none⟩ = some (.int .i64 p) := bg0.cell 1
  gi_wp2_with fail
  refine wpIn_scope_wide ?_
  gi_wp2_with fail
  refine wpIn_label ?_
  gi_wp2_with fail
  refine ⟨trivial, fun _ => by omega, (callsIn_wide.2 (HWk.out _ hL0)).mono ?_⟩
  rintro e v1 ⟨v, rfl, ⟨gf, lb, rfl, eg, eq, ⟨kk, hgo⟩⟩, hX⟩
  have bY1 := bY.below hX bY.lt
  have bg1 := bg0.below hX bg0.lt
  have bh1 := bh0.below hX bh0.lt
  have hJ1 : J [] v1 := hJ.below hJ0 hX
  have hlo := hX.size
  have hi := bY.lt
  clear eq hL0 bg0 bh0 d1 hJ0 HWk
  gi_wp2_with fail
  refine wpIn_rangeOwn1 rfl (by omega) (gf := gf) (lb := lb) rfl trivial eg (hgo _ (by omega)) (by omega) (Below.refl _ _) (fun _ => rfl)
    (fun pre V => J pre V ∧ (∀ y ∈ pre, 0 ≤ y ∧ y < p - 1) ∧ Blk V W.heap.size 122 #[.func (.yield l) #[] #[]] ∧ Blk V g 130 #[.int .i64 k, .int .i64 p, .int .i64 s, .int .i64 m] ∧ Blk V h 3 #[.int .i64 col])
    (fun c pre V => c = .exit 0 ∧ ∃ q x, pre = q ++ [x] ∧ ((¬ (0 ≤ x ∧ x < p - 1) ∧ J q V) ∨ ((0 ≤ x ∧ x < p - 1) ∧ Jx pre V)))
    ?hI ?hIx ⟨hJ1, by simp, bY1, bg1, bh1⟩ ?a1 ?assign ?body ?done ?stop
  case hI =>
    exact (hJ.spares (by omega) _).and ((spares_pure _ _ _).and ((spares_blk (by omega) _ (fun _ => _)).and ((spares_blk (by omega) _ (fun _ => _)).and (spares_blk (by omega) _ (fun _ => _)))))
  case hIx =>
    rintro c pre X Y row ⟨h1, q, x, h2, h3⟩ hg hr
    have hr' : ∀ r, row = some r → W.heap.size ≤ r := fun r e => by have := hr r e; omega
    exact ⟨h1, q, x, h2, h3.imp (fun h => ⟨h.1, hJ _ _ _ _ h.2 hg hr'⟩) (fun h => ⟨h.1, hJx _ _ _ _ h.2 hg hr'⟩)⟩
  case assign =>
    intro l' x V K hK
    gi_wp2
    exact hK
  case body =>
    rintro l' pre x V hsz ⟨hj, hr, bY, bg, bh⟩ hlen
    have hlen2 : pre.length < p.toNat := by
      obtain ⟨e1, e2, _⟩ := rows_walk p hp
      rw [e1, List.length_append] at hlen
      simp at hlen
      omega
    have hn3 : 1 ≤ n - 1 - 1 := by omega
    have c0 := bg.cell 0
    have c1 := bg.cell 1
    have c2 := bg.cell 2
    have c3 := bg.cell 3
    simp only [List.getElem?_toArray, List.getElem?_cons_zero, List.getElem?_cons_succ] at c0 c1 c2 c3
    by_cases hx : 0 ≤ x ∧ x < p - 1
    · have HR := Lib.hid (fun V => (hasRow_any k p s m x hu V).mono fun _ _ h => And.intro (h.1.trans (ret_bool (decide_eq_true hx))) h.2)
      gi_wp2_with fail
      refine ⟨trivial, (CallsIn.inRound l' (callsIn_wide.2 (HR.out V))).mono ?_⟩
      rintro e V1 ⟨rfl, hB1⟩
      have hj1 : J pre V1 := hJ.below hj hB1
      have hs1 := hB1.size
      have cY := (bY.below hB1 bY.lt).one
      have cH := (bh.below hB1 bh.lt).one
      obtain ⟨fn, tmps, asg, bdy, hy, hR⟩ := YieldAt.deep (m := n - 1 - 1 - 1) (hY pre x V1 hj1 hlen2 (by omega))
      gi_wp2
      refine hR.mono ?_
      rintro e W3 (⟨rfl, hJ3, hk3, hS3⟩ | ⟨rfl, hJx3, hS3⟩)
      · gi_wp2
        have hS : Since W.heap.size V W3 := (Since.below hB1).trans hS3
        have hkk : Keep lo mm V W3 := (Keep.below hB1 (by omega)).trans hk3
        refine ⟨hS.keep (by omega) hsz, hS.keep (by omega) (by omega), hJ3, ?_, (hS.2 _ (Nat.le_refl _) bY.lt).trans bY, hkk.blk bg hg1 hg2, hkk.blk bh hh1 hh2⟩
        intro y hy
        rcases List.mem_append.1 hy with h1 | h1
        · exact hr y h1
        · rw [List.mem_singleton.1 h1]; exact hx
      · gi_wp2
        have hS : Since W.heap.size V W3 := (Since.below hB1).trans hS3
        exact ⟨hS.keep (by omega) hsz, rfl, pre, x, rfl, .inr ⟨hx, hJx3⟩⟩
    · have HR := Lib.hid (fun V => (hasRow_any k p s m x hu V).mono fun _ _ h => And.intro (h.1.trans (ret_bool (decide_eq_false hx))) h.2)
      gi_wp2_with (refine ⟨trivial, ?_⟩; gi_at_call 215; refine (callsIn_wide.2 (HR.out _)).mono ?_; rintro e V1 ⟨rfl, hB1⟩)
      refine ⟨fun _ h => (by cases h), ?_⟩
      gi_wp2
      have hS1 : Since W.heap.size V V1 := Since.below hB1
      exact ⟨hS1.keep (by omega) hsz, rfl, pre, x, rfl, .inl ⟨hx, hJ.below hj hB1⟩⟩
  case done =>
    rintro D xs V hD rfl ⟨_, hr, _⟩ _
    exfalso
    obtain ⟨e1, _, _⟩ := rows_walk p hp
    have := hr (p - 1) (by rw [e1]; simp)
    omega
  case stop =>
    rintro D c pre V hD hSp ⟨rfl, q, x, rfl, hq⟩ hK
    gi_wp2
    rw [Exit.noGoto_normal]
    refine ⟨by simp, .inl ⟨_, _, rfl, run_takeDeferred hK, ?_⟩⟩
    refine ⟨_, results_none rfl _ _ _, ⟨_, rfl⟩, ?_⟩
    rcases hq with ⟨hx, hq⟩ | ⟨hx, hq⟩
    · exact .inl ⟨q, rows_left p hp q x hSp hx, hJ.put hq (by omega) _⟩
    · exact .inr ⟨_, rows_some p hp q x hSp hx, hJx.put hq (by omega) _⟩

/-- What goes over places of the column col, and is no nil. -/
def Places (lo : Nat) (col : Int) (zs : List Int) (N : Nat) (v : Value) (w : World) : Prop :=
  ∃ gf lb, v = .func (.func gf) #[] lb ∧ (∀ args W, (callFunc gf args).run Tryz.prog W = .ok (.enter gf args) W) ∧ (∀ W, (binOp .eql 53 v .nilFunc).run Tryz.prog W = .ok (.bool false) W) ∧
    ∀ n, 4 ≤ n → SeqFar Fence.wide n Tryz.prog gf lb (fun x : Int => #[.agg #[.int .i64 col, .int .i64 x]]) (Keep lo (w.heap.size - lo)) (fun ys => ys = zs) (fun pre => pre <+: zs) N w
theorem enter_down1 : ∀ args W, (callFunc 236 args).run Tryz.prog W = .ok (.enter 236 args) W := enters_of Tryz.func236 (by kernel_rfl) rfl
theorem enter_cells1 : ∀ args W, (callFunc 223 args).run Tryz.prog W = .ok (.enter 223 args) W := enters_of Tryz.func223 (by kernel_rfl) rfl
theorem eql_down1 (g h : Nat) (W : World) : (binOp .eql 53 (.func (.func 236) #[] #[.pointer (some ⟨g, 0, none⟩), .pointer (some ⟨h, 0, none⟩)]) .nilFunc).run Tryz.prog W = .ok (.bool false) W := by kernel_rfl
theorem eql_cells1 (W : World) : (binOp .eql 53 (.func (.func 223) #[] #[]) .nilFunc).run Tryz.prog W = .ok (.bool false) W := by kernel_rfl

set_option maxHeartbeats 400000 in
theorem cells1_in (n l : Nat) (J Jx : List Int → World → Prop) (W : World) (h0 : J [] W) :
    CallsIn Fence.wide n Tryz.prog 223 (#[.func (.yield l) #[] #[]] ++ #[]) W fun e W' => (∃ v, e = .returned v) ∧ ((∃ ys, ys = [] ∧ J ys W') ∨ (∃ pre, pre <+: [] ∧ Jx pre W')) := by
  refine callsIn_of_wp Tryz.func223 rfl trivial ?_ rfl
  simp only [Tryz.ntmps223, List.size_toArray, List.length_cons, List.length_nil, Nat.reduceAdd, Nat.reduceSub, Array.replicate_succ, Array.replicate_zero, List.push_toArray, List.append_toArray, List.nil_append, List.cons_append]
  gi_wp2
  go_end0
  exact ⟨⟨_, rfl⟩, .inl ⟨_, rfl, h0⟩⟩

set_option maxHeartbeats 400000 in
theorem down_any (k p s m col : Int) (hp : p ∈ prm) (hu : Und p s m) (w : World) (hL : Laid w) :
    Calls Tryz.prog 222 #[.agg #[.int .i64 k, .int .i64 p, .int .i64 s, .int .i64 m], .int .i64 col] w fun e w' => ∃ v, e = .returned v ∧ Places w.heap.size col (rowsL p) p.toNat v w' ∧ Below w.heap.size w w' := by
  have hmf := make_func
  go_enter Tryz.func222, Tryz.ntmps222
  go_wp2
  go_ret
  have hB := below_two w (.cells #[.int .i64 k, .int .i64 p, .int .i64 s, .int .i64 m] 130) (.cells #[.int .i64 col] 3)
  have bg := (Blk.new w 130 #[.int .i64 k, .int .i64 p, .int .i64 s, .int .i64 m]).alloc (.cells #[.int .i64 col] 3)
  have bh := Blk.second w (.cells #[.int .i64 k, .int .i64 p, .int .i64 s, .int .i64 m] 130) 3 #[.int .i64 col]
  have hL2 := hL.next hB
  refine ⟨_, rfl, ⟨_, _, rfl, enter_down1, eql_down1 _ _, ?_⟩, hB⟩
  intro n hn l J Jx W hW hJ hJx hY h0
  exact down1_in n hn l _ _ w.heap.size _ k p s m col hp hu (Nat.le_refl _) (by simp; omega) (by omega) (by simp; omega) W (by have := hW.size; simp at this ⊢; omega) (hL2.next hW) J Jx hJ hJx hY (bg.below hW bg.lt) (bh.below hW bh.lt) h0
end Go.Proofs.YtggdlklkjnbbjaaGreatDoor
