/- The function that goes over a diagonal. The columns of EVENODD: what a diagonal goes over, collected. The columns of EVENODD: a diagonal's cells, and the adjuster. The mathematics of EVENODD: the byte -/
import Derived.Maps.OwnIn
import Derived.Test.YtfihlelhpmjpaaaGreatDoorCRG3
namespace Go.Proofs.YtfihlelhpmjpaaaGreatDoor.E
open Go.RowKit Go.Shelf Go.Proofs.YtfihlelhpmjpaaaGreatDoor.C
set_option linter.unusedSimpArgs false
set_option linter.unusedVariables false
attribute [local go_sem] Oper.semAt_some

theorem farO_blkV {B g : Nat} {t : TypeId} {cs : Array Value} (hg : g < B) {o : Option Nat} {X Y : World} {row : Option Nat} (h : Blk X g t cs) (hgr : X.grownBy Y row) (hr : ∀ r, row = some r → B ≤ r ∧ some r ≠ o) : Blk Y g t cs := h.grown hgr fun e => by have := (hr g e.symm).1; omega
theorem keep_grown {N B : Nat} {V X Y : World} {o : Option Nat} {row : Option Nat} (h : Keep 0 N V X) (hN : N ≤ V.heap.size) (hNB : N ≤ B) (hgr : X.grownBy Y row) (hr : ∀ r, row = some r → B ≤ r ∧ some r ≠ o) : Keep 0 N V Y :=
  ⟨Nat.le_trans h.1 hgr.size, fun b h1 h2 => (hgr.block b (by have := h.1; omega) (fun e => by have := (hr b e.symm).1; omega)).trans (h.2 b h1 h2)⟩
section
variable {F : Fence} {n : Nat} {P : Program} {md : Region.Mode} {ops : Array Oper} {Q : Exit → Act → World → Prop} {S : World → Prop}
theorem anyHF_skip {i : Nat} {o : Oper} {d : Tmp} {k : Nat} {listed : Array Bool} {a : Act} {w : World} (hr : Region.ready md ops listed = [i]) (ho : ops[i]? = some o) (hw : Region.wanted o (yielded ops a.tmps) = false) (hd : o.dst = some d) (hF : ∀ f, F.fn f) (hS : S w)
    (h : anyHF F n P md ops Q S k (listed.setIfInBounds i true) { tmps := a.tmps.setIfInBounds d undef, defers := a.defers } w) : anyHF F n P md ops Q S (k + 1) listed a w :=
  ⟨fun h0 => (by rw [hr] at h0; cases h0), fun j hj => by
    rw [hr] at hj
    obtain rfl := List.mem_singleton.1 hj
    unfold wpOpIn
    rw [ho]
    simp only [hw, Bool.false_eq_true, if_false]
    refine ⟨fun f _ => hF f, hS, ?_⟩
    unfold Act.put
    rw [hd]
    exact h⟩
end
theorem wide_fn : ∀ f, Fence.wide.fn f := fun _ => trivial
theorem diagW_len (p : Int) (f : Nat → Nat → Value) : ∀ (k : Nat) (xs : List Int), (diagW p f k xs).length ≤ xs.length
  | _, [] => Nat.le_refl _
  | k, x :: xs => by
    have h := diagW_len p f (k + 1) xs
    rw [diagW, List.length_append, List.length_cons]
    split <;> simp <;> omega
set_option maxRecDepth 100000 in
set_option maxHeartbeats 2000000 in
theorem diagonal1_in (n : Nat) (hn : 4 ≤ n) (l g h B N : Nat) (p a : Int) (v : Value) (f : Nat → Nat → Value) (hR : RightC 1 p) (a0 : 0 ≤ a) (a1 : a < p) (W : World) (hBN : B ≤ N) (hg : g < N) (hh : h < N) (hN : N ≤ W.heap.size) (hL : Laid W) (J Jx : List Value → Option Nat → World → Prop) (o₀ : Option Nat) (ho₀ : ∀ b, o₀ = some b → b < W.heap.size)
    (hJ : FarO W.heap.size J) (hJx : FarO W.heap.size Jx) (hr1 : ∀ s o X, J s o X → RowO o X) (hr2 : ∀ s o X, Jx s o X → RowO o X)
    (hY : ∀ pre (c r : Nat) o W1, J pre o W1 → (c : Int) < p ∧ (r : Int) < p - 1 → pre.length < p.toNat → W.heap.size ≤ W1.heap.size → YieldAt Fence.wide (n - 1) Tryz.prog l #[f c r] W1 fun e W' => ∃ o', FreshO o o' W1 ∧ SinceO W.heap.size o W1 W' ∧ ((e = .returned (.bool true) ∧ J (pre ++ [f c r]) o' W' ∧ Keep 0 N W1 W') ∨ (e = .returned (.bool false) ∧ Jx (pre ++ [f c r]) o' W' ∧ Keep 0 N W1 W')))
    (hG : GridV B W v p.toNat (p - 1).toNat f) (bg : Blk W g 166 #[.int .i64 p, v]) (bh : Blk W h 3 #[.int .i64 a]) (h0 : J [] o₀ W) :
    CallsIn Fence.wide n Tryz.prog 276 #[.func (.yield l) #[] #[], .pointer (some ⟨g, 0, none⟩), .pointer (some ⟨h, 0, none⟩)] W fun e W' => (∃ v, e = .returned v) ∧ ∃ o', FreshO o₀ o' W ∧ ((∃ ys, ys = diagW p f 0 (walkN p a (-1)) ∧ J ys o' W') ∨ (∃ pre, pre <+: diagW p f 0 (walkN p a (-1)) ∧ Jx pre o' W')) := by
  have hp := hR.2
  have HWk := Lib.hid (fun V hV => modWalk_anyO p a (-1) (fine_one.2 ⟨hp, a0, a1⟩) V hV (by omega) (by omega))
  have HRw := Lib.hid (fun V hV => rows_any p hR V hV)
  refine callsIn_of_wp_marks Tryz.func276 rfl trivial ?_ rfl
  simp only [Tryz.ntmps276, List.size_toArray, List.length_cons, List.length_nil, Nat.reduceAdd, Nat.reduceSub, Array.replicate_succ, Array.replicate_zero, List.push_toArray, List.append_toArray, List.nil_append, List.cons_append]
  obtain ⟨W0, hW0⟩ : ∃ W0, W.alloc (.cells #[.func (.yield l) #[] #[]] 85) = W0 := ⟨_, rfl⟩
  have hB0 : Below W.heap.size W W0 := by rw [← hW0]; exact below_one W _
  have bY : Blk W0 W.heap.size 85 #[.func (.yield l) #[] #[]] := by rw [← hW0]; exact Blk.new W _ _
  have bg0 := bg.below hB0 bg.lt
  have bh0 := bh.below hB0 bh.lt
  have hL0 := hL.next hB0
  have d0 : W0.cell? ⟨g, 0, none⟩ = some (.int .i64 p) := bg0.cell 0
  gi_wp2_with fail
  refine wpIn_scope_wide ?_
  gi_wp2_with fail
  refine ⟨trivial, fun _ => by omega, (callsIn_wide.2 (HRw.out _ hL0)).mono ?_⟩
  rintro e v1 ⟨rfl, hX⟩
  gi_wp2_with fail
  refine wpIn_label ?_
  obtain ⟨v2, hv2⟩ : ∃ v2, ((v1.alloc (Obj.cells #[.int .i64 (p - 1)] 3)).alloc (.cells #[.int .i64 0] 3)) = v2 := ⟨_, rfl⟩
  rw [hv2]
  have hB2 : Below v1.heap.size v1 v2 := by rw [← hv2]; exact below_two v1 _ _
  have bR : Blk v2 v1.heap.size 3 #[.int .i64 (p - 1)] := by rw [← hv2]; exact (Blk.new v1 _ _).alloc _
  have bC : Blk v2 (v1.heap.size + 1) 3 #[.int .i64 0] := by rw [← hv2]; exact Blk.second v1 _ _ _
  have hB02 : Below W0.heap.size W0 v2 := below_in hX hB2
  have hBW2 : Below W.heap.size W v2 := below_in hB0 hB02
  have bY2 := bY.below hB02 bY.lt
  have hL2 := hL.next hBW2
  have bg2 := bg.below hBW2 bg.lt
  have bh2 := bh.below hBW2 bh.lt
  have i0 : v2.cell? ⟨g, 0, none⟩ = some (.int .i64 p) := bg2.cell 0
  have i1 : v2.cell? ⟨h, 0, none⟩ = some (.int .i64 a) := bh2.one
  have hs1 := hX.size
  have hs0 := bY.lt
  clear hW0 hv2
  gi_wp2_with fail
  refine ⟨trivial, fun _ => by omega, (callsIn_wide.2 (HWk.out _ hL2)).mono ?_⟩
  rintro e w7 ⟨v', rfl, ⟨gf, lb, rfl, eg, hgo⟩, hX3⟩
  have hB7 : Below W.heap.size W w7 := below_in hBW2 hX3
  have bY7 := bY2.below hX3 bY2.lt
  have bR7 := bR.below hX3 bR.lt
  have bC7 := bC.below hX3 bC.lt
  have hJ7 := hJ.below h0 hB7
  have hlR := bR.lt
  have hlC := bC.lt
  have hl7 := hX3.size
  clear i0 i1 bg2 bh2 hL2 hL0 bg0 bh0 d0 HRw HWk bY2 bR bC
  gi_wp2_with fail
  have hlen : (walkN p a (-1)).length = p.toNat := by rw [walkN_yes (fine_one.2 ⟨hp, a0, a1⟩), walkL_len]
  refine wpIn_rangeO rfl (by omega) (gf := gf) (lb := lb) rfl trivial eg (hgo _ (by omega)) (fun h h' => h.trans h') (fun X l' ob hl' hlX _ => Keep.putFar X (by omega) ob) (Below.refl _ _) (fun _ => rfl)
    (fun pre o X => J (diagW p f 0 pre) o X ∧ FreshO o₀ o w7 ∧ Blk X W.heap.size 85 #[.func (.yield l) #[] #[]] ∧ Blk X v1.heap.size 3 #[.int .i64 (p - 1)] ∧ Blk X (v1.heap.size + 1) 3 #[.int .i64 (pre.length : Int)] ∧ Keep 0 N W X)
    (fun c pre o X => c = .exit 0 ∧ FreshO o₀ o w7 ∧ ∃ q x, pre = q ++ [x] ∧ x < p - 1 ∧ Jx (diagW p f 0 pre) o X)
    ?hI ?hIx o₀ (fun b e => by have := ho₀ b e; omega) ⟨hJ7, .inl rfl, bY7, bR7, bC7, Keep.below hB7 (by omega)⟩ (fun x o a' X => a' = { tmps := #[.func (.yield l) #[] #[], .pointer (some ⟨g, 0, none⟩), .pointer (some ⟨h, 0, none⟩), .pointer (some ⟨W.heap.size, 0, none⟩), .pointer (some ⟨v1.heap.size, 0, none⟩), .pointer (some ⟨v1.heap.size + 1, 0, none⟩), .int .i64 x, .pointer (some ⟨g, 0, none⟩), .int .i64 p, .int .i64 (p - 1), .pointer (some ⟨g, 0, none⟩), .int .i64 p, .int .i64 a, .func (.func gf) #[] lb, .int .i64 x, undef, undef, undef, undef, undef, undef, undef, undef, undef, undef, undef, undef, undef, undef, undef, undef, undef, undef], defers := [] } ∧ 0 ≤ x ∧ x < p) ?hAx ?assign ?row1 ?row2 ?body ?done ?stop
  case hI =>
    rintro s o X Y row ⟨h1, h2, h3, h4, h5, h6⟩ hgr hr
    exact ⟨hJ _ o X Y row h1 hgr (fun r e => ⟨by have := (hr r e).1; omega, (hr r e).2⟩), h2, farO_blkV (by omega) h3 hgr hr, farO_blkV (by omega) h4 hgr hr, farO_blkV (by omega) h5 hgr hr, keep_grown h6 hN (by omega) hgr hr⟩
  case hIx =>
    rintro c s o X Y row ⟨h1, h2, q, x, h3, h4, h5⟩ hgr hr
    exact ⟨h1, h2, q, x, h3, h4, hJx _ o X Y row h5 hgr (fun r e => ⟨by have := (hr r e).1; omega, (hr r e).2⟩)⟩
  case hAx => exact fun _ _ _ _ _ _ _ _ h => h
  case assign =>
    intro l' pre x o X K hsz ho hI hok hK
    gi_wp2
    exact hK _ _ (SinceO.refl _ _ _) (Keep.refl _ _ _) hI ⟨rfl, hok⟩
  case row1 => exact fun _ _ _ h => hr1 _ _ _ h.1
  case row2 => exact fun _ _ _ _ h => by obtain ⟨_, _, _, _, _, _, h⟩ := h; exact hr2 _ _ _ h
  case body =>
    rintro l' pre x o a' X hsz ⟨hj, hfo, bY, bR, bC, hk⟩ ⟨rfl, x0, x1⟩ hln
    obtain ⟨r, rfl⟩ : ∃ r : Nat, x = (r : Int) := ⟨x.toNat, by omega⟩
    obtain ⟨gb, go, gc, rfl, hgb, hgc, hcol⟩ := hG
    have hcl : pre.length < p.toNat := by omega
    have hpn : pre.length < 100 := by have := prm_bounds hp; omega
    obtain ⟨b2, off2, cap2, k1, k2, k3, k4⟩ := hcol pre.length hcl
    have kx : ∀ q : Addr, q.block < N → X.cell? q = W.cell? q := fun q hq => World.cell?_of_block (hk.2 q.block (Nat.zero_le _) (by omega))
    have cY := bY.one
    have cR := bR.one
    have cC := bC.one
    have cv : X.cell? ⟨g, 1, none⟩ = some (.slice (some ⟨gb, go, none⟩) p.toNat gc) := (kx _ hg).trans (bg.cell 1)
    have ccol : X.cell? ⟨gb, go + pre.length, none⟩ = some (.slice (some ⟨b2, off2, none⟩) (p - 1).toNat cap2) := (kx _ (Nat.lt_of_lt_of_le hgb hBN)).trans k1
    have i1 : (0 : Int) ≤ (pre.length : Int) := by omega
    have i2 : (pre.length : Int) < (p.toNat : Int) := by omega
    have j1 : (0 : Int) ≤ (r : Int) := by omega
    have hw : IntKind.i64.wrap ((pre.length : Int) + 1) = (pre.length : Int) + 1 := IntWalk.i64_in _ (by have := prm_bounds hp; omega)
    have hdl := diagW_len p f 0 pre
    have hYn : some W.heap.size ≠ o := hfo.ne (by have := bY7.lt; omega) (fun e => by have := ho₀ _ e.symm; omega)
    have hRn : some v1.heap.size ≠ o := hfo.ne (by omega) (fun e => by have := ho₀ _ e.symm; omega)
    have hCn : some (v1.heap.size + 1) ≠ o := hfo.ne (by omega) (fun e => by have := ho₀ _ e.symm; omega)
    by_cases hx : (r : Int) < p - 1
    · have hd : decide ((r : Int) < p - 1) = true := decide_eq_true hx
      have ccell : X.cell? ⟨b2, off2 + r, none⟩ = some (f pre.length r) := (kx _ (Nat.lt_of_lt_of_le k3 hBN)).trans (k4 r (by omega))
      have j2 : (r : Int) < ((p - 1).toNat : Int) := by omega
      have hone : diagW p f 0 (pre ++ [(r : Int)]) = diagW p f 0 pre ++ [f pre.length r] := by rw [diagW_one, if_pos hx, Int.toNat_natCast]
      have hj0 := hJ.below hj (Below.refl _ _).drew
      obtain ⟨fn, tmps, asg, bdy, hy, hRr⟩ := YieldAt.deep (m := n - 1 - 1 - 1) (hY (diagW p f 0 pre) pre.length r o X.drew hj0 ⟨by omega, hx⟩ (by omega) (by have := hB7.size; simp; omega))
      have hn3 : 1 ≤ n - 1 - 1 := by omega
      clear hcl hdl
      have HP := Lib.hid hpn
      clear hpn
      generalize p.toNat = P at *
      generalize (p - 1).toNat = R1 at *
      gi_wp2_with fail
      have hS : (fun V : World => V.cell? ⟨W.heap.size, 0, none⟩ = some (.func (.yield l) #[] #[]) ∧ V.cell? ⟨v1.heap.size, 0, none⟩ = some (.int .i64 (p - 1)) ∧ V.cell? ⟨v1.heap.size + 1, 0, none⟩ = some (.int .i64 (pre.length : Int)) ∧ V.cell? ⟨g, 1, none⟩ = some (.slice (some ⟨gb, go, none⟩) P gc) ∧ V.cell? ⟨gb, go + pre.length, none⟩ = some (.slice (some ⟨b2, off2, none⟩) R1 cap2) ∧ V.cell? ⟨b2, off2 + r, none⟩ = some (f pre.length r)) X.drew := ⟨cY, cR, cC, cv, ccol, ccell⟩
      refine region_HF (S := (fun V : World => V.cell? ⟨W.heap.size, 0, none⟩ = some (.func (.yield l) #[] #[]) ∧ V.cell? ⟨v1.heap.size, 0, none⟩ = some (.int .i64 (p - 1)) ∧ V.cell? ⟨v1.heap.size + 1, 0, none⟩ = some (.int .i64 (pre.length : Int)) ∧ V.cell? ⟨g, 1, none⟩ = some (.slice (some ⟨gb, go, none⟩) P gc) ∧ V.cell? ⟨gb, go + pre.length, none⟩ = some (.slice (some ⟨b2, off2, none⟩) R1 cap2) ∧ V.cell? ⟨b2, off2 + r, none⟩ = some (f pre.length r))) (by kernel_rfl) ?_
      refine anyHF_take (i := 0) (d := 15) (v := .int .i64 (r : Int)) (by kernel_rfl) rfl (by kernel_rfl) (by kernel_rfl) (by kernel_rfl) rfl (fun _ _ _ h => h) ⟨Or.inl ⟨by rfl, fun w hS => by obtain ⟨h0, h1, h2, h3, h4, h5⟩ := hS; go_simp⟩, fun _ => rfl⟩ hS ?_
      simp only [List.setIfInBounds_toArray, List.set_cons_zero, List.set_cons_succ]
      refine anyHF_take (i := 1) (d := 16) (v := .int .i64 (p - 1)) (by kernel_rfl) rfl (by kernel_rfl) (by kernel_rfl) (by kernel_rfl) rfl (fun _ _ _ h => h) ⟨Or.inl ⟨by rfl, fun w hS => by obtain ⟨h0, h1, h2, h3, h4, h5⟩ := hS; go_simp⟩, fun _ => rfl⟩ hS ?_
      simp only [List.setIfInBounds_toArray, List.set_cons_zero, List.set_cons_succ]
      refine anyHF_take (i := 2) (d := 17) (v := .bool true) (by kernel_rfl) rfl (by kernel_rfl) (by kernel_rfl) (by kernel_rfl) rfl (fun _ _ _ h => h) ⟨Or.inl ⟨by rfl, fun w hS => by obtain ⟨h0, h1, h2, h3, h4, h5⟩ := hS; go_simp⟩, fun _ => rfl⟩ hS ?_
      simp only [List.setIfInBounds_toArray, List.set_cons_zero, List.set_cons_succ]
      refine anyHF_take (i := 3) (d := 18) (v := .bool true) (by kernel_rfl) rfl (by kernel_rfl) (by kernel_rfl) (by kernel_rfl) rfl (fun _ _ _ h => h) ⟨Or.inl ⟨by rfl, fun w hS => by obtain ⟨h0, h1, h2, h3, h4, h5⟩ := hS; go_simp⟩, fun _ => rfl⟩ hS ?_
      simp only [List.setIfInBounds_toArray, List.set_cons_zero, List.set_cons_succ]
      refine anyHF_take (i := 4) (d := 19) (v := .func (.yield l) #[] #[]) (by kernel_rfl) rfl (by kernel_rfl) (by kernel_rfl) (by kernel_rfl) rfl (fun _ _ _ h => h) ⟨Or.inl ⟨by rfl, fun w hS => by obtain ⟨h0, h1, h2, h3, h4, h5⟩ := hS; go_simp⟩, fun _ => rfl⟩ hS ?_
      simp only [List.setIfInBounds_toArray, List.set_cons_zero, List.set_cons_succ]
      refine anyHF_take (i := 5) (d := 20) (v := .pointer (some ⟨g, 1, none⟩)) (by kernel_rfl) rfl (by kernel_rfl) (by kernel_rfl) (by kernel_rfl) rfl (fun _ _ _ h => h) ⟨Or.inl ⟨by rfl, fun w hS => by obtain ⟨h0, h1, h2, h3, h4, h5⟩ := hS; go_simp⟩, fun _ => rfl⟩ hS ?_
      simp only [List.setIfInBounds_toArray, List.set_cons_zero, List.set_cons_succ]
      refine anyHF_take (i := 6) (d := 21) (v := .slice (some ⟨gb, go, none⟩) P gc) (by kernel_rfl) rfl (by kernel_rfl) (by kernel_rfl) (by kernel_rfl) rfl (fun _ _ _ h => h) ⟨Or.inl ⟨by rfl, fun w hS => by obtain ⟨h0, h1, h2, h3, h4, h5⟩ := hS; go_simp⟩, fun _ => rfl⟩ hS ?_
      simp only [List.setIfInBounds_toArray, List.set_cons_zero, List.set_cons_succ]
      refine anyHF_take (i := 7) (d := 22) (v := .int .i64 (pre.length : Int)) (by kernel_rfl) rfl (by kernel_rfl) (by kernel_rfl) (by kernel_rfl) rfl (fun _ _ _ h => h) ⟨Or.inl ⟨by rfl, fun w hS => by obtain ⟨h0, h1, h2, h3, h4, h5⟩ := hS; go_simp⟩, fun _ => rfl⟩ hS ?_
      simp only [List.setIfInBounds_toArray, List.set_cons_zero, List.set_cons_succ]
      refine anyHF_take (i := 8) (d := 23) (v := .pointer (some ⟨gb, go + pre.length, none⟩)) (by kernel_rfl) rfl (by kernel_rfl) (by kernel_rfl) (by kernel_rfl) rfl (fun _ _ _ h => h) ⟨Or.inl ⟨by rfl, fun w hS => by obtain ⟨h0, h1, h2, h3, h4, h5⟩ := hS; go_simp⟩, fun _ => rfl⟩ hS ?_
      simp only [List.setIfInBounds_toArray, List.set_cons_zero, List.set_cons_succ]
      refine anyHF_take (i := 9) (d := 24) (v := .slice (some ⟨b2, off2, none⟩) R1 cap2) (by kernel_rfl) rfl (by kernel_rfl) (by kernel_rfl) (by kernel_rfl) rfl (fun _ _ _ h => h) ⟨Or.inl ⟨by rfl, fun w hS => by obtain ⟨h0, h1, h2, h3, h4, h5⟩ := hS; go_simp⟩, fun _ => rfl⟩ hS ?_
      simp only [List.setIfInBounds_toArray, List.set_cons_zero, List.set_cons_succ]
      refine anyHF_take (i := 10) (d := 25) (v := .int .i64 (r : Int)) (by kernel_rfl) rfl (by kernel_rfl) (by kernel_rfl) (by kernel_rfl) rfl (fun _ _ _ h => h) ⟨Or.inl ⟨by rfl, fun w hS => by obtain ⟨h0, h1, h2, h3, h4, h5⟩ := hS; go_simp⟩, fun _ => rfl⟩ hS ?_
      simp only [List.setIfInBounds_toArray, List.set_cons_zero, List.set_cons_succ]
      refine anyHF_take (i := 11) (d := 26) (v := .pointer (some ⟨b2, off2 + r, none⟩)) (by kernel_rfl) rfl (by kernel_rfl) (by kernel_rfl) (by kernel_rfl) rfl (fun _ _ _ h => h) ⟨Or.inl ⟨by rfl, fun w hS => by obtain ⟨h0, h1, h2, h3, h4, h5⟩ := hS; go_simp⟩, fun _ => rfl⟩ hS ?_
      simp only [List.setIfInBounds_toArray, List.set_cons_zero, List.set_cons_succ]
      refine anyHF_take (i := 12) (d := 27) (v := f pre.length r) (by kernel_rfl) rfl (by kernel_rfl) (by kernel_rfl) (by kernel_rfl) rfl (fun _ _ _ h => h) ⟨Or.inl ⟨by rfl, fun w hS => by obtain ⟨h0, h1, h2, h3, h4, h5⟩ := hS; go_simp⟩, fun _ => rfl⟩ hS ?_
      simp only [List.setIfInBounds_toArray, List.set_cons_zero, List.set_cons_succ]
      refine anyHF_one (i := 13) (by kernel_rfl) rfl (by kernel_rfl) (by rfl) ?_
      gi_wp2
      refine hRr.mono ?_
      rintro e W3 ⟨o', hf3, hS3, (⟨rfl, hJ3, hk3⟩ | ⟨rfl, hJx3, hk3⟩)⟩
      all_goals have y0 := (World.cell?_of_block (a := ⟨W.heap.size, 0, none⟩) (hS3.2 W.heap.size (Nat.le_refl _) bY.lt hYn)).trans hS.1
      all_goals have y1 := (World.cell?_of_block (a := ⟨v1.heap.size, 0, none⟩) (hS3.2 v1.heap.size (by omega) bR.lt hRn)).trans hS.2.1
      all_goals have y2 := (World.cell?_of_block (a := ⟨v1.heap.size + 1, 0, none⟩) (hS3.2 (v1.heap.size + 1) (by omega) bC.lt hCn)).trans hS.2.2.1
      all_goals have y3 := (World.cell?_of_block (a := ⟨g, 1, none⟩) (hk3.2 g (Nat.zero_le _) (by omega))).trans hS.2.2.2.1
      all_goals have y4 := (World.cell?_of_block (a := ⟨gb, go + pre.length, none⟩) (hk3.2 gb (Nat.zero_le _) (by omega))).trans hS.2.2.2.2.1
      all_goals have y5 := (World.cell?_of_block (a := ⟨b2, off2 + r, none⟩) (hk3.2 b2 (Nat.zero_le _) (by omega))).trans hS.2.2.2.2.2
      all_goals have hSX : SinceO W.heap.size o X W3 := hS3
      all_goals have hfX : FreshO o o' X := hf3
      all_goals have hkX : Keep 0 N X W3 := hk3
      all_goals have hfo' : FreshO o₀ o' w7 := hfo.trans hsz hfX
      all_goals clear hS hRr hy
      · refine ⟨⟨y0, y1, y2, y3, y4, y5⟩, ?_⟩
        refine anyHF_one (i := 14) (by kernel_rfl) rfl (by kernel_rfl) (by rfl) ?_
        gi_wp2
        refine anyHF_one (i := 15) (by kernel_rfl) rfl (by kernel_rfl) (by rfl) ?_
        gi_wp2
        refine anyHF_done (by kernel_rfl) ?_ _
        have bC3 := hSX.blk bC (by omega) hCn
        have z0 := bC3.frozen 0
        gi_wp2
        have hl1 : (((pre ++ [(r : Int)]).length : Nat) : Int) = (pre.length : Int) + 1 := by simp
        have hst : ∀ E, E ≤ w7.heap.size → v1.heap.size + 1 < E → Since E W3 (W3.setCell ⟨v1.heap.size + 1, 0, none⟩ (.int .i64 ((pre.length : Int) + 1))) := fun E _ hE => Since.setCell W3 (p := ⟨v1.heap.size + 1, 0, none⟩) hE _
        have hCn' : some (v1.heap.size + 1) ≠ o' := hfX.ne bC.lt hCn
        refine ⟨o', hfX, ⟨Nat.le_trans hSX.1 (hst _ (Nat.le_refl _) (by omega)).1, fun b h1 h2 h3 => ((hst _ (Nat.le_refl _) (by omega)).2 b h1 (by have := hSX.1; omega)).trans (hSX.2 b (by omega) h2 h3)⟩, (hSX.keep (by omega) (by omega) (fun b e => ?_)).trans ((hst v2.heap.size (by omega) (by omega)).keep (Nat.le_refl _) (by have := hSX.1; omega)), ?_, hfo', (hSX.blk bY (Nat.le_refl _) hYn).far (by show W.heap.size ≠ v1.heap.size + 1; omega) _, (hSX.blk bR (by omega) hRn).far (by show v1.heap.size ≠ v1.heap.size + 1; omega) _, ?_, (hk.trans hkX).trans ⟨(hst _ (Nat.le_refl _) (by omega)).1, fun b h1 h2 => Below.heap_setCell W3 _ _ b (by show b ≠ v1.heap.size + 1; omega)⟩⟩
        · rcases hfo with rfl | ⟨b3, rfl, hb3⟩
          · have := ho₀ b e; omega
          · injection e with e; omega
        · rw [hone]
          exact hJ _ o' W3 _ (some (v1.heap.size + 1)) hJ3 (grown_set (grown_below (Below.refl _ W3)) 0 _) (fun r e => by cases e; exact ⟨by omega, hCn'⟩)
        · rw [hl1]
          exact bC3.set_ 0 _
      · refine ⟨⟨y0, y1, y2, y3, y4, y5⟩, ?_⟩
        refine anyHF_one (i := 14) (by kernel_rfl) rfl (by kernel_rfl) (by rfl) ?_
        gi_wp2
        refine anyHF_one (i := 15) (by kernel_rfl) rfl (by kernel_rfl) (by rfl) ?_
        gi_wp2
        refine anyHF_done (by kernel_rfl) ?_ _
        gi_wp2
        exact ⟨o', hfX, hSX.less (by have := hB7.size; omega), rfl, hfo', pre, r, rfl, hx, by rw [hone]; exact hJx3⟩
    · have hd : decide ((r : Int) < p - 1) = false := decide_eq_false hx
      have hone : diagW p f 0 (pre ++ [(r : Int)]) = diagW p f 0 pre := by rw [diagW_one, if_neg hx, List.append_nil]
      have hn3 : 1 ≤ n - 1 - 1 := by omega
      clear hcl hdl
      gi_wp2_with fail
      have hS : (fun V : World => V.cell? ⟨W.heap.size, 0, none⟩ = some (.func (.yield l) #[] #[]) ∧ V.cell? ⟨v1.heap.size, 0, none⟩ = some (.int .i64 (p - 1)) ∧ V.cell? ⟨v1.heap.size + 1, 0, none⟩ = some (.int .i64 (pre.length : Int))) X.drew := ⟨cY, cR, cC⟩
      refine region_HF (S := (fun V : World => V.cell? ⟨W.heap.size, 0, none⟩ = some (.func (.yield l) #[] #[]) ∧ V.cell? ⟨v1.heap.size, 0, none⟩ = some (.int .i64 (p - 1)) ∧ V.cell? ⟨v1.heap.size + 1, 0, none⟩ = some (.int .i64 (pre.length : Int)))) (by kernel_rfl) ?_
      refine anyHF_take (i := 0) (d := 15) (v := .int .i64 (r : Int)) (by kernel_rfl) rfl (by kernel_rfl) (by kernel_rfl) (by kernel_rfl) rfl (fun _ _ _ h => h) ⟨Or.inl ⟨by rfl, fun w hS => by obtain ⟨h0, h1, h2⟩ := hS; go_simp⟩, fun _ => rfl⟩ hS ?_
      simp only [List.setIfInBounds_toArray, List.set_cons_zero, List.set_cons_succ]
      refine anyHF_take (i := 1) (d := 16) (v := .int .i64 (p - 1)) (by kernel_rfl) rfl (by kernel_rfl) (by kernel_rfl) (by kernel_rfl) rfl (fun _ _ _ h => h) ⟨Or.inl ⟨by rfl, fun w hS => by obtain ⟨h0, h1, h2⟩ := hS; go_simp⟩, fun _ => rfl⟩ hS ?_
      simp only [List.setIfInBounds_toArray, List.set_cons_zero, List.set_cons_succ]
      refine anyHF_take (i := 2) (d := 17) (v := .bool false) (by kernel_rfl) rfl (by kernel_rfl) (by kernel_rfl) (by kernel_rfl) rfl (fun _ _ _ h => h) ⟨Or.inl ⟨by rfl, fun w hS => by obtain ⟨h0, h1, h2⟩ := hS; go_simp⟩, fun _ => rfl⟩ hS ?_
      simp only [List.setIfInBounds_toArray, List.set_cons_zero, List.set_cons_succ]
      refine anyHF_take (i := 3) (d := 18) (v := .bool false) (by kernel_rfl) rfl (by kernel_rfl) (by kernel_rfl) (by kernel_rfl) rfl (fun _ _ _ h => h) ⟨Or.inl ⟨by rfl, fun w hS => by obtain ⟨h0, h1, h2⟩ := hS; go_simp⟩, fun _ => rfl⟩ hS ?_
      simp only [List.setIfInBounds_toArray, List.set_cons_zero, List.set_cons_succ]
      refine anyHF_take (i := 4) (d := 19) (v := undef) (by kernel_rfl) rfl (by kernel_rfl) (by kernel_rfl) (by kernel_rfl) rfl (fun _ _ _ h => h) ⟨Or.inr ⟨by rfl, rfl⟩, fun _ => rfl⟩ hS ?_
      simp only [List.setIfInBounds_toArray, List.set_cons_zero, List.set_cons_succ]
      refine anyHF_take (i := 5) (d := 20) (v := undef) (by kernel_rfl) rfl (by kernel_rfl) (by kernel_rfl) (by kernel_rfl) rfl (fun _ _ _ h => h) ⟨Or.inr ⟨by rfl, rfl⟩, fun _ => rfl⟩ hS ?_
      simp only [List.setIfInBounds_toArray, List.set_cons_zero, List.set_cons_succ]
      refine anyHF_take (i := 6) (d := 21) (v := undef) (by kernel_rfl) rfl (by kernel_rfl) (by kernel_rfl) (by kernel_rfl) rfl (fun _ _ _ h => h) ⟨Or.inr ⟨by rfl, rfl⟩, fun _ => rfl⟩ hS ?_
      simp only [List.setIfInBounds_toArray, List.set_cons_zero, List.set_cons_succ]
      refine anyHF_take (i := 7) (d := 22) (v := undef) (by kernel_rfl) rfl (by kernel_rfl) (by kernel_rfl) (by kernel_rfl) rfl (fun _ _ _ h => h) ⟨Or.inr ⟨by rfl, rfl⟩, fun _ => rfl⟩ hS ?_
      simp only [List.setIfInBounds_toArray, List.set_cons_zero, List.set_cons_succ]
      refine anyHF_take (i := 8) (d := 23) (v := undef) (by kernel_rfl) rfl (by kernel_rfl) (by kernel_rfl) (by kernel_rfl) rfl (fun _ _ _ h => h) ⟨Or.inr ⟨by rfl, rfl⟩, fun _ => rfl⟩ hS ?_
      simp only [List.setIfInBounds_toArray, List.set_cons_zero, List.set_cons_succ]
      refine anyHF_take (i := 9) (d := 24) (v := undef) (by kernel_rfl) rfl (by kernel_rfl) (by kernel_rfl) (by kernel_rfl) rfl (fun _ _ _ h => h) ⟨Or.inr ⟨by rfl, rfl⟩, fun _ => rfl⟩ hS ?_
      simp only [List.setIfInBounds_toArray, List.set_cons_zero, List.set_cons_succ]
      refine anyHF_take (i := 10) (d := 25) (v := undef) (by kernel_rfl) rfl (by kernel_rfl) (by kernel_rfl) (by kernel_rfl) rfl (fun _ _ _ h => h) ⟨Or.inr ⟨by rfl, rfl⟩, fun _ => rfl⟩ hS ?_
      simp only [List.setIfInBounds_toArray, List.set_cons_zero, List.set_cons_succ]
      refine anyHF_take (i := 11) (d := 26) (v := undef) (by kernel_rfl) rfl (by kernel_rfl) (by kernel_rfl) (by kernel_rfl) rfl (fun _ _ _ h => h) ⟨Or.inr ⟨by rfl, rfl⟩, fun _ => rfl⟩ hS ?_
      simp only [List.setIfInBounds_toArray, List.set_cons_zero, List.set_cons_succ]
      refine anyHF_take (i := 12) (d := 27) (v := undef) (by kernel_rfl) rfl (by kernel_rfl) (by kernel_rfl) (by kernel_rfl) rfl (fun _ _ _ h => h) ⟨Or.inr ⟨by rfl, rfl⟩, fun _ => rfl⟩ hS ?_
      simp only [List.setIfInBounds_toArray, List.set_cons_zero, List.set_cons_succ]
      refine anyHF_skip (i := 13) (d := 28) (by kernel_rfl) rfl (by rfl) rfl wide_fn hS ?_
      simp only [List.setIfInBounds_toArray, List.set_cons_zero, List.set_cons_succ]
      refine anyHF_take (i := 14) (d := 29) (v := undef) (by kernel_rfl) rfl (by kernel_rfl) (by kernel_rfl) (by kernel_rfl) rfl (fun _ _ _ h => h) ⟨Or.inr ⟨by rfl, rfl⟩, fun _ => rfl⟩ hS ?_
      simp only [List.setIfInBounds_toArray, List.set_cons_zero, List.set_cons_succ]
      refine anyHF_take (i := 15) (d := 30) (v := .bool false) (by kernel_rfl) rfl (by kernel_rfl) (by kernel_rfl) (by kernel_rfl) rfl (fun _ _ _ h => h) ⟨Or.inl ⟨by rfl, fun w hS => by obtain ⟨h0, h1, h2⟩ := hS; go_simp⟩, fun _ => rfl⟩ hS ?_
      simp only [List.setIfInBounds_toArray, List.set_cons_zero, List.set_cons_succ]
      refine anyHF_done (by kernel_rfl) ?_ _
      have z0 := bC.frozen 0
      gi_wp2
      have hl1 : (((pre ++ [(r : Int)]).length : Nat) : Int) = (pre.length : Int) + 1 := by simp
      have hX0 : Since W.heap.size X X.drew := ⟨Nat.le_refl _, fun _ _ _ => rfl⟩
      have hst : ∀ E, E ≤ w7.heap.size → v1.heap.size + 1 < E → Since E X (X.drew.setCell ⟨v1.heap.size + 1, 0, none⟩ (.int .i64 ((pre.length : Int) + 1))) := fun E _ hE => Since.setCell X.drew (p := ⟨v1.heap.size + 1, 0, none⟩) hE _
      refine ⟨o, .inl rfl, ⟨(hst _ (Nat.le_refl _) (by omega)).1, fun b h1 h2 h3 => (hst _ (Nat.le_refl _) (by omega)).2 b h1 h2⟩, (hst v2.heap.size (by omega) (by omega)).keep (Nat.le_refl _) (by omega), ?_, hfo, bY.far (by show W.heap.size ≠ v1.heap.size + 1; omega) _, bR.far (by show v1.heap.size ≠ v1.heap.size + 1; omega) _, ?_, hk.trans ⟨(hst _ (Nat.le_refl _) (by omega)).1, fun b h1 h2 => Below.heap_setCell X.drew _ _ b (by show b ≠ v1.heap.size + 1; omega)⟩⟩
      · rw [hone]
        exact hJ _ o X _ (some (v1.heap.size + 1)) hj (grown_set (grown_below (Below.refl _ X).drew) 0 _) (fun r e => by cases e; exact ⟨by omega, hCn⟩)
      · rw [hl1]
        exact bC.set_ 0 _
  case done =>
    rintro D xs o X hD hfo rfl ⟨hj, _⟩ hK hne
    gi_wp2
    rw [Exit.noGoto_normal]
    refine ⟨by simp, .inl ⟨_, _, rfl, run_takeDeferred hK, ?_⟩⟩
    exact ⟨_, results_none rfl _ _ _, ⟨_, rfl⟩, o, hfo.later hB7.size, .inl ⟨_, rfl, hJ.put hj (by have := hB7.size; omega) hne _⟩⟩
  case stop =>
    rintro D c pre o X hD hfo hSp ⟨rfl, _, q, x, rfl, hx, hjx⟩ hK hne
    gi_wp2
    rw [Exit.noGoto_normal]
    refine ⟨by simp, .inl ⟨_, _, rfl, run_takeDeferred hK, ?_⟩⟩
    refine ⟨_, results_none rfl _ _ _, ⟨_, rfl⟩, o, hfo.later hB7.size, .inr ⟨_, ?_, hJx.put hjx (by have := hB7.size; omega) hne _⟩⟩
    obtain ⟨t, ht⟩ := hSp
    rw [← ht, diagW_append p f 0 (q ++ [x]) t]
    exact List.prefix_append _ _
end Go.Proofs.YtfihlelhpmjpaaaGreatDoor.E

namespace Go.Proofs.YtfihlelhpmjpaaaGreatDoor.E
open Go.RowKit Go.Shelf Go.Proofs.YtfihlelhpmjpaaaGreatDoor.C
set_option linter.unusedSimpArgs false
set_option linter.unusedVariables false
attribute [local go_sem] Oper.semAt_some

/-- append of one slice more to a row of the call's own, in a round. -/
theorem wpListIn_val {F : Fence} {nF : Nat} (w : World) {ops : Array Oper} {rest : List Oper} {o : Oper} {a : Act} {Q : Exit → Act → World → Prop} (hgd : o.guard = none) (s x : Operand)
    (ho : o.op = .call { callee := .builtin .append, args := #[s, x], argTypes := #[36, 36] })
    (base : Nat) (v : Value) (l : List Value) (hs : a.eval s = v) (hown : OwnS w base v l) (g : Nat) (u : Value) (hu1 : u.oneCell' = true) (hx : a.eval x = .slice (some ⟨g, 0, none⟩) 1 1) (hu : Blk w g 57 #[u])
    (hlen : l.length ≤ 1000000) (hbase : base ≤ w.heap.size)
    (h : ∀ v' w', OwnS w' base v' (l ++ [u]) → w.grownBy w' v.ownBlock → (v'.ownBlock = v.ownBlock ∨ v'.ownBlock = some w.heap.size) → wpListIn F nF Tryz.prog ops Q rest (a.put o.dst v') w') : wpListIn F nF Tryz.prog ops Q (o :: rest) a w := by
  obtain ⟨i, hi, hz0, hz1, hz2⟩ := info_parts Tryz.infoSlcE
  refine wpListIn_append_own_at w hgd s x 36 ho base 57 i (.slice none 0 0) 1 24 Tryz.underlying36 hi hz0 hz1 hz2 rfl (by omega) v l.length l hs hown ⟨g, 0, none⟩ 1 1 [u] hx rfl
    (by intro j y hy
        rw [addr_add, Nat.zero_add, hu.cell j, List.getElem?_toArray]
        exact hy)
    (by intro y hy; simp only [List.mem_cons, List.not_mem_nil, or_false] at hy; subst hy; exact hu1) (by unfold maxLen; omega) (by omega) hbase ?_
  intro v' w' h1 h2 h4 h3
  refine h v' w' ?_ h2 h3
  unfold OwnS
  rw [List.length_append]
  exact h1
theorem OwnS.far {w : World} {base : Nat} {v : Value} {l : List Value} (h : OwnS w base v l) {p : Addr} (hp : some p.block ≠ v.ownBlock) (u : Value) : OwnS (w.setCell p u) base v l := by
  refine ⟨h.1, ?_⟩
  rcases h.2 with h1 | ⟨g, cap, cur, e, h2, hg, rest⟩
  · exact .inl h1
  · exact .inr ⟨g, cap, cur, e, h2, (Below.heap_setCell w p u g (fun e2 => hp (by rw [e, ← e2]; rfl))).trans hg, rest⟩
theorem OwnS.kept {w w' : World} {base : Nat} {v : Value} {l : List Value} (h : OwnS w base v l) {row : Option Nat} (hg : w.grownBy w' row) (hne : v.ownBlock = none ∨ v.ownBlock ≠ row) : OwnS w' base v l := World.ownsRow.kept h hg hne
theorem OwnS.below {w w' : World} {base : Nat} {v : Value} {l : List Value} (h : OwnS w base v l) (hb : Below w.heap.size w w') : OwnS w' base v l := World.ownsRow.kept (row := none) h (grown_below hb) (by cases v.ownBlock <;> simp)
theorem OwnS.blks {w w' : World} {base : Nat} {v : Value} {l : List Value} (h : OwnS w base v l) (hk : ∀ g t cs, Blk w g t cs → Blk w' g t cs) : OwnS w' base v l :=
  ⟨h.1, h.2.imp id fun ⟨g, cap, cur, e, h2, hg, rest⟩ => ⟨g, cap, cur, e, h2, hk _ _ _ hg, rest⟩⟩
theorem OwnS.less {w : World} {base base' : Nat} {v : Value} {l : List Value} (h : OwnS w base v l) (hb : base' ≤ base) : OwnS w base' v l :=
  ⟨h.1, h.2.imp id fun ⟨g, cap, cur, e, h2, rest⟩ => ⟨g, cap, cur, e, by omega, rest⟩⟩
theorem OwnS.rowO {w : World} {base : Nat} {v : Value} {l : List Value} (h : OwnS w base v l) : RowO v.ownBlock w := fun b e => by
  rcases h.2 with ⟨rfl, _⟩ | ⟨g, cap, cur, rfl, _, hg, _⟩
  · cases e
  · injection e with e
    subst e
    exact ⟨_, _, _, hg⟩
theorem OwnS.own_le {w : World} {base : Nat} {v : Value} {l : List Value} (h : OwnS w base v l) (b : Nat) (e : v.ownBlock = some b) : base ≤ b := by
  rcases h.2 with ⟨rfl, _⟩ | ⟨g, cap, cur, rfl, h2, hg, _⟩
  · cases e
  · injection e with e
    subst e
    exact h2

set_option maxRecDepth 100000 in
set_option maxHeartbeats 4000000 in
theorem appendSeq_any (us : List Value) (N : Nat) (hN : N ≤ 1000) (gf : Nat) (lb : Array Value) (w0 W : World) (hB0 : Below w0.heap.size w0 W) (eg : ∀ args w, (callFunc gf args).run Tryz.prog w = .ok (.enter gf args) w)
    (Ok : Value → World → Prop) (hOk : ∀ x X, Ok x X → ∃ A n c, x = .slice A n c) (hseq : ∀ n, 4 ≤ n → SeqQ Fence.wide n Tryz.prog gf lb (fun x : Value => #[x]) Ok (Keep 0 w0.heap.size) (fun ys => ys = us) (fun pre => pre <+: us) N w0) :
    Calls Tryz.prog 275 #[.slice none 0 0, .func (.func gf) #[] lb] W fun e w' => ∃ u, e = .returned u ∧ OwnS w' W.heap.size u us ∧ Below W.heap.size W w' := by
  obtain ⟨w7, hw7⟩ : ∃ w7, W.alloc (.cells #[.slice none 0 0] 36) = w7 := ⟨_, rfl⟩
  have b1 : Blk w7 W.heap.size 36 #[.slice none 0 0] := by rw [← hw7]; exact Blk.new W _ _
  have hB : Below W.heap.size W w7 := by rw [← hw7]; exact below_one W _
  have s7 : w7.heap.size = W.heap.size + 1 := by rw [← hw7]; simp
  have hs0 := hB0.size
  refine (callsIn_wide (n := 9)).1 ?_
  refine callsIn_of_wp_marks Tryz.func275 rfl trivial ?_ rfl
  simp only [Tryz.ntmps275, List.size_toArray, List.length_cons, List.length_nil, Nat.reduceAdd, Nat.reduceSub, Array.replicate_succ, Array.replicate_zero, List.push_toArray, List.append_toArray, List.nil_append, List.cons_append]
  gi_wp2_with fail
  clear hw7
  refine wpIn_rangeQ rfl (by omega) (gf := gf) (lb := lb) rfl trivial eg (hseq _ (by omega)) (fun h h' => h.trans h') (fun V l ob hl _ hlp => Keep.putFar V (by omega) ob) (below_in hB0 hB) (fun _ => rfl)
    (fun pre o X => ∃ v, Blk X W.heap.size 36 #[v] ∧ OwnS X (W.heap.size + 1) v pre ∧ v.ownBlock = o ∧ Below W.heap.size W X)
    (fun _ _ _ _ => False) ?hI (fun c s o X Y row hs _ _ => hs) none (fun b e => by cases e) ⟨_, b1, ownS_nil _ _, rfl, hB⟩
    (fun x o a' X => a' = { tmps := #[.slice none 0 0, .func (.func gf) #[] lb, .pointer (some ⟨W.heap.size, 0, none⟩), undef, .slice none 0 0, x, .func (.func gf) #[] lb, x, undef, undef, undef, undef, undef], defers := [] } ∧ ∃ A n c, x = .slice A n c) (fun _ _ _ _ _ _ _ _ h => h)
    ?assign (fun pre o X h => by obtain ⟨v, _, ho, rfl, _⟩ := h; exact ho.rowO) (fun c pre o X h => h.elim) ?body ?done (fun D c pre o X _ _ _ h => h.elim)
  case hI =>
    rintro s o X Y row ⟨v, hb1, ho, rfl, hBX⟩ hgr hr
    have hne : ∀ g, g < w7.heap.size → some g ≠ row := fun g hg e => by have := (hr g e.symm).1; omega
    refine ⟨v, hb1.grown hgr (hne _ (by omega)), ho.kept hgr ?_, rfl, hBX.grown hgr hBX.size (fun r e => by have := (hr r e).1; omega)⟩
    cases hrow : row with
    | none => exact (Option.eq_none_or_eq_some v.ownBlock).imp id (fun ⟨x, hx⟩ => by rw [hx]; simp)
    | some r => exact .inr (fun e => (hr r hrow).2 e.symm)
  case assign =>
    intro l' pre x o X K hsz ho hI hok hK
    gi_wp2
    exact hK _ _ (SinceO.refl _ _ _) (Keep.refl _ _ _) hI ⟨rfl, hOk _ _ hok⟩
  case body =>
    rintro l' pre x o a' X hsz ⟨v, hb1, ho, rfl, hBX⟩ ⟨rfl, Ax, nx, cx, rfl⟩ hlen
    have hx1 : (Value.slice Ax nx cx).oneCell' = true := rfl
    have c1 := hb1.one
    have hol := ho.rowO.lt
    have hBb := below_one X (.cells #[.slice Ax nx cx] 57)
    have HO := Lib.hid (ho.below hBb)
    have HU := Lib.hid (Blk.new X 57 #[.slice Ax nx cx])
    have hb1b := hb1.below hBb hb1.lt
    have hn1 : some W.heap.size ≠ v.ownBlock := fun e => by have := ho.own_le _ e.symm; omega
    have hva := ho.own_le
    have hsb := hBb.size
    have hsX := hBX.size
    have HX1 := Lib.hid hx1
    clear hx1
    gi_wp2_with (gi_at_builtin; refine wpListIn_val _ rfl _ _ rfl (W.heap.size + 1) v _ rfl HO.out X.heap.size (.slice Ax nx cx) HX1.out rfl HU.out (by omega) (by simp; omega) ?_; intro v2 w3 ho2 hg2 hd2; (have hfm := World.ownsRow.form ho2 (by simp)); (obtain ⟨g2, cap2, hv2, _, _⟩ := hfm); (generalize (pre ++ [Value.slice Ax nx cx]).length = N2 at hv2); subst hv2; have hb3 := hb1b.grown hg2 hn1; have c3 := hb3.one; have f3 := hb3.frozen 0)
    have hs3 := hg2.size
    have hn2 : some W.heap.size ≠ (Value.slice (some ⟨g2, 0, none⟩) N2 cap2).ownBlock := fun e => by have := ho2.own_le _ e.symm; omega
    have hfr : FreshO v.ownBlock (Value.slice (some ⟨g2, 0, none⟩) N2 cap2).ownBlock X := by
      rcases hd2 with h | h
      · exact .inl h
      · exact .inr ⟨_, h, by simp⟩
    have hsi : SinceO w7.heap.size v.ownBlock X (w3.setCell ⟨W.heap.size, 0, none⟩ (Value.slice (some ⟨g2, 0, none⟩) N2 cap2)) :=
      (SinceO.below hBb).trans_ ⟨by simpa using hs3, fun b h1 h2 h3 => (Below.heap_setCell w3 _ (Value.slice (some ⟨g2, 0, none⟩) N2 cap2) b (by simp; omega)).trans (hg2.block b h2 h3)⟩
    have hke : Keep 0 w0.heap.size X (w3.setCell ⟨W.heap.size, 0, none⟩ (Value.slice (some ⟨g2, 0, none⟩) N2 cap2)) :=
      ((Keep.below hBb (by omega)).trans (Keep.grown hg2 (by omega) (fun r e => .inr (by have := hva r e; omega)))).trans (Keep.setFar w3 (by simp; omega) (Value.slice (some ⟨g2, 0, none⟩) N2 cap2))
    have hbe : Below W.heap.size W (w3.setCell ⟨W.heap.size, 0, none⟩ (Value.slice (some ⟨g2, 0, none⟩) N2 cap2)) := ((below_in hBX hBb).grown hg2 (by omega) (fun r e => by have := hva r e; omega)).setCell (by simp) (Value.slice (some ⟨g2, 0, none⟩) N2 cap2)
    exact ⟨(Value.slice (some ⟨g2, 0, none⟩) N2 cap2).ownBlock, hfr, hsi, hke, (Value.slice (some ⟨g2, 0, none⟩) N2 cap2), hb3.set_ 0 (Value.slice (some ⟨g2, 0, none⟩) N2 cap2), ho2.far hn2 (Value.slice (some ⟨g2, 0, none⟩) N2 cap2), rfl, hbe⟩
  case done =>
    rintro D xs o X hD hfo rfl ⟨v, hb1, ho, rfl, hBX⟩ hK hne
    have c1 := hb1.one
    gi_wp2
    refine leaves_blks W [D] X ⟨by simp, fun E hE => ?_⟩ hBX (fun W' hB' hk => ?_)
    · obtain rfl := List.mem_singleton.1 hE
      exact ⟨by omega, hK⟩
    · exact ⟨v, by simp [results, Tryz.results275, go_sem], v, rfl, (ho.blks hk).less (by omega), hB'⟩
end Go.Proofs.YtfihlelhpmjpaaaGreatDoor.E

namespace Go.Proofs.YtfihlelhpmjpaaaGreatDoor.E
open Go.RowKit Go.Shelf Go.Proofs.YtfihlelhpmjpaaaGreatDoor.C
set_option linter.unusedSimpArgs false
set_option linter.unusedVariables false
attribute [local go_sem] Oper.semAt_some

theorem OwnS.vals {base : Nat} {W : World} {v : Value} {us : List Value} (h : OwnS W base v us) : Vals W.heap.size W v us := by
  rcases Nat.eq_zero_or_pos us.length with h0 | h0
  · rcases h.2 with ⟨rfl, _⟩ | ⟨g, cap, cur, rfl, _, hg, hn, _⟩
    · exact .inl ⟨rfl, List.eq_nil_of_length_eq_zero h0⟩
    · refine .inr ⟨g, 0, cap, rfl, hn, (Array.getElem?_eq_some_iff.1 hg).1, fun j u hu => ?_⟩
      rw [List.eq_nil_of_length_eq_zero h0] at hu
      cases hu
  · obtain ⟨g, cap, rfl, hg, hg1⟩ := World.ownsRow.form h h0
    have hcp : us.length ≤ cap := by
      rcases h.2 with ⟨e, _⟩ | ⟨g2, cap2, cur, e2, _, _, hnc, _⟩
      · cases e
      · injection e2 with _ _ e3
        omega
    refine .inr ⟨g, 0, cap, rfl, hcp, hg1, fun j u hu => ?_⟩
    have hj : j < us.length := (List.getElem?_eq_some_iff.1 hu).1
    rw [Nat.zero_add, World.ownsRow.cellAt h j (by omega)]
    exact hu
theorem xorOk_of {n : Nat} {ls : List (List UInt8)} (h0 : 0 < ls.length) (h1 : 1 ≤ n ∧ n ≤ 64) (h : ∀ l ∈ ls, l.length = n) : XorOk ls := by
  have hj : ∀ j, j < ls.length → (ls[j]?.getD []).length = n := fun j hj => by
    rw [List.getElem?_eq_getElem hj]
    exact h _ (List.getElem_mem hj)
  refine ⟨h0, ?_, fun j hjl => ?_⟩
  · unfold Cell
    rw [hj 0 h0]
    exact h1
  · rw [hj 0 h0]
    exact hj j hjl
/-- The cell of a column and a row. -/
def cellOf_ (css : List (List (List UInt8))) (c r : Nat) : List UInt8 := (css[c]?.getD [])[r]?.getD []
theorem togOk_cell {R : Nat} {css : List (List (List UInt8))} (h : TogOk R css) {c r : Nat} (hc : c < css.length) (hr : r < R) : (cellOf_ css c r).length = (firstC css).length := by
  obtain ⟨h1, h2, h3⟩ := h.2 c hc
  exact h3 r (by omega)
theorem togOk_first {R : Nat} {css : List (List (List UInt8))} (h : TogOk R css) : 1 ≤ (firstC css).length ∧ (firstC css).length ≤ 64 := (h.2 0 h.1).2.1
theorem diagOf_ok {p a : Int} {css : List (List (List UInt8))} (h : DataOk p css) (h0 : 0 ≤ a) (h1 : a < p) : ∀ l ∈ diagOf p a css, l.length = (firstC css).length := by
  obtain ⟨hR, hl, ht⟩ := h
  intro l hl2
  unfold diagOf at hl2
  obtain ⟨x, hx, rfl⟩ := List.mem_map.1 hl2
  unfold diagAt at hx
  obtain ⟨i, hi, rfl⟩ := List.mem_map.1 hx
  obtain ⟨hi1, hi2⟩ := List.mem_filter.1 hi
  rw [List.mem_range] at hi1
  have hi3 := of_decide_eq_true hi2
  have hpp := prm_bounds hR.2
  refine togOk_cell ht (by omega) ?_
  have : 0 ≤ (a - (i : Int)) % p := Int.emod_nonneg _ (by omega)
  show ((a - (i : Int)) % p).toNat < (p - 1).toNat
  omega
theorem diagOf_len {p a : Int} {css : List (List (List UInt8))} : (diagOf p a css).length ≤ p.toNat := by
  unfold diagOf
  rw [List.length_map]
  exact diagAt_len p a _
theorem diagAt_pos0 : ∀ p ∈ prm, ∀ a ∈ List.range p.toNat, 0 < (diagAt p (a : Int) p.toNat).length := by decide +kernel
theorem diagOf_pos {p a : Int} {css : List (List (List UInt8))} (hp : p ∈ prm) (h0 : 0 ≤ a) (h1 : a < p) : 0 < (diagOf p a css).length := by
  have h := diagAt_pos0 p hp a.toNat (List.mem_range.2 (by omega))
  rw [show ((a.toNat : Nat) : Int) = a by omega] at h
  unfold diagOf
  rw [List.length_map]
  exact h
/-- The function that goes over a diagonal. -/
theorem diagonal_seq {B : Nat} (g h : Nat) (p a : Int) (v : Value) (f : Nat → Nat → Value) (hR : RightC 1 p) (a0 : 0 ≤ a) (a1 : a < p) (w : World) (hB : B ≤ w.heap.size) (hL : Laid w) (hG : GridV B w v p.toNat (p - 1).toNat f)
    (bg : Blk w g 166 #[.int .i64 p, v]) (bh : Blk w h 3 #[.int .i64 a]) (n : Nat) (hn : 4 ≤ n) :
    SeqQ Fence.wide n Tryz.prog 276 #[.pointer (some ⟨g, 0, none⟩), .pointer (some ⟨h, 0, none⟩)] (fun x : Value => #[x]) (fun x _ => ∃ c r : Nat, ((c : Int) < p ∧ (r : Int) < p - 1) ∧ x = f c r) (Keep 0 w.heap.size)
      (fun ys => ys = diagW p f 0 (walkN p a (-1))) (fun pre => pre <+: diagW p f 0 (walkN p a (-1))) p.toNat w := by
  intro l J Jx W o₀ hBW ho₀ hJ hJx hr1 hr2 hY h0
  exact diagonal1_in n hn l g h B w.heap.size p a v f hR a0 a1 W hB bg.lt bh.lt hBW.size (hL.next hBW) J Jx o₀ ho₀ hJ hJx hr1 hr2 (fun pre c r o W1 hj hcr hlen hsz => hY pre (f c r) o W1 hj ⟨c, r, hcr, rfl⟩ hlen hsz) (hG.below (hBW.mono hB)) (bg.below hBW bg.lt) (bh.below hBW bh.lt) h0
theorem enter_diag1 : ∀ args W, (callFunc 276 args).run Tryz.prog W = .ok (.enter 276 args) W := enters_of Tryz.func276 (by kernel_rfl) rfl
set_option maxHeartbeats 1000000 in
theorem diagonal_any (p a : Int) (v : Value) (w : World) (A : Option Addr) (m c : Nat) (hv : v = .slice A m c) :
    Calls Tryz.prog 247 #[.agg #[.int .i64 p, v], .int .i64 a] w fun e w' => e = .returned (.func (.func 276) #[] #[.pointer (some ⟨w.heap.size, 0, none⟩), .pointer (some ⟨w.heap.size + 1, 0, none⟩)]) ∧ Blk w' w.heap.size 166 #[.int .i64 p, v] ∧ Blk w' (w.heap.size + 1) 3 #[.int .i64 a] ∧ Below w.heap.size w w' := by
  subst hv
  have hmf : ∀ (fn : Fn) (first cap : Array Value) (w : World), (Instr.makeFunc fn first cap).run Tryz.prog w = .ok (.func fn first cap) w := fun _ _ _ _ => rfl
  have b0 : Blk ((w.alloc (.cells #[.int .i64 p, .slice A m c] 166)).alloc (.cells #[.int .i64 a] 3)) w.heap.size 166 #[.int .i64 p, .slice A m c] := (Blk.new w _ _).alloc _
  have b1 := Blk.second w (.cells #[.int .i64 p, .slice A m c] 166) 3 #[.int .i64 a]
  have hB := below_two w (.cells #[.int .i64 p, .slice A m c] 166) (.cells #[.int .i64 a] 3)
  go_enter Tryz.func247, Tryz.ntmps247
  go_wp2
  go_ret
  exact ⟨rfl, b0, b1, hB⟩
set_option maxHeartbeats 1000000 in
theorem collect_any (us : List Value) (N : Nat) (hN : N ≤ 1000) (gf : Nat) (lb : Array Value) (w0 W : World) (hB0 : Below w0.heap.size w0 W) (eg : ∀ args w, (callFunc gf args).run Tryz.prog w = .ok (.enter gf args) w)
    (Ok : Value → World → Prop) (hOk : ∀ x X, Ok x X → ∃ A n c, x = .slice A n c) (hseq : ∀ n, 4 ≤ n → SeqQ Fence.wide n Tryz.prog gf lb (fun x : Value => #[x]) Ok (Keep 0 w0.heap.size) (fun ys => ys = us) (fun pre => pre <+: us) N w0) :
    Calls Tryz.prog 246 #[.func (.func gf) #[] lb] W fun e w' => ∃ u, e = .returned u ∧ OwnS w' W.heap.size u us ∧ Below W.heap.size W w' := by
  have HA := Lib.hid (appendSeq_any us N hN gf lb w0 W hB0 eg Ok hOk hseq)
  clear hseq hOk eg
  go_enter Tryz.func246, Tryz.ntmps246
  go_wp2_with (go_at_call 275; refine HA.out.mono ?_; rintro e w1 ⟨u, rfl, ho, hB1⟩)
  go_ret
  exact ⟨_, rfl, ho, hB1⟩
/-- The cells of a diagonal, collected. -/
theorem collectDiag_any {B : Nat} (g h : Nat) (p a : Int) (v : Value) (css : List (List (List UInt8))) (hok : DataOk p css) (a0 : 0 ≤ a) (a1 : a < p) (w W : World) (hB : B ≤ w.heap.size) (hL : Laid w) (hC : Cols B w v css)
    (bg : Blk w g 166 #[.int .i64 p, v]) (bh : Blk w h 3 #[.int .i64 a]) (hB0 : Below w.heap.size w W) :
    Calls Tryz.prog 246 #[.func (.func 276) #[] #[.pointer (some ⟨g, 0, none⟩), .pointer (some ⟨h, 0, none⟩)]] W fun e w' => ∃ u us, e = .returned u ∧ ManyV w'.heap.size w' u us (diagOf p a css) ∧ Below W.heap.size W w' := by
  obtain ⟨hR, hl, ht⟩ := hok
  have hpp := prm_bounds hR.2
  have hl2 : css.length = p.toNat := by omega
  obtain ⟨f, hG, hf⟩ := hC.grid ht.1 (R := (p - 1).toNat) (by omega) (fun j hj => (ht.2 j hj).1)
  rw [hl2] at hG hf
  have hone : ∀ c r : Nat, (c : Int) < p → (r : Int) < p - 1 → ∃ A n c2, f c r = .slice A n c2 := fun c r h1 h2 => by
    obtain ⟨A, cap, e, _⟩ := hf c r (by omega) (by omega)
    exact ⟨_, _, _, e⟩
  have hseq := diagonal_seq g h p a v f hR a0 a1 w hB hL hG bg bh
  rw [diagW_walk hR.2 a0 a1] at hseq
  refine (collect_any (diagV p a f p.toNat) p.toNat (by omega) _ _ w W hB0 enter_diag1 _ (fun x X ⟨c, r, hcr, e⟩ => by rw [e]; exact hone c r hcr.1 hcr.2) hseq).mono ?_
  rintro e w' ⟨u, rfl, ho, hB1⟩
  have hs0 := hB0.size
  have hs1 := hB1.size
  refine ⟨u, _, rfl, ⟨?_, ho.vals, fun j x hx => ?_⟩, hB1⟩
  · unfold diagV diagOf
    rw [List.length_map, List.length_map]
  · unfold diagV at hx
    rw [List.getElem?_map] at hx
    obtain ⟨y, hy, rfl⟩ := Option.map_eq_some_iff.1 hx
    have hcell : (diagOf p a css)[j]?.getD [] = (css[y.1]?.getD [])[y.2]?.getD [] := by
      unfold diagOf
      rw [List.getElem?_map, hy]
      rfl
    rw [hcell]
    have hy2 := List.mem_of_getElem? hy
    unfold diagAt at hy2
    obtain ⟨i, hi, rfl⟩ := List.mem_map.1 hy2
    obtain ⟨hi1, hi2⟩ := List.mem_filter.1 hi
    rw [List.mem_range] at hi1
    have hi3 := of_decide_eq_true hi2
    have h00 : 0 ≤ (a - (i : Int)) % p := Int.emod_nonneg _ (by omega)
    exact ((hf i ((a - (i : Int)) % p).toNat hi1 (by omega)).below ((below_in hB0 hB1).mono hB)).more (by omega)
end Go.Proofs.YtfihlelhpmjpaaaGreatDoor.E

namespace Go.Proofs.YtfihlelhpmjpaaaGreatDoor.E
open Go.RowKit Go.Shelf Go.Proofs.YtfihlelhpmjpaaaGreatDoor.C
set_option linter.unusedSimpArgs false
set_option linter.unusedVariables false

def xa (l : List UInt8) : UInt8 := l.foldl (· ^^^ ·) 0
theorem xa_from : ∀ (l : List UInt8) (z : UInt8), l.foldl (· ^^^ ·) z = z ^^^ xa l
  | [], z => by simp [xa]
  | a :: l, z => by
    unfold xa
    rw [List.foldl_cons, xa_from l, List.foldl_cons, xa_from l (0 ^^^ a)]
    simp [UInt8.xor_assoc]
theorem xa_nil : xa [] = 0 := rfl
theorem xa_cons (a : UInt8) (l : List UInt8) : xa (a :: l) = a ^^^ xa l := by
  show (a :: l).foldl (· ^^^ ·) 0 = _
  rw [List.foldl_cons, xa_from, UInt8.zero_xor]
theorem xa_append (a b : List UInt8) : xa (a ++ b) = xa a ^^^ xa b := by
  induction a with
  | nil => simp [xa_nil]
  | cons x a ih => rw [List.cons_append, xa_cons, xa_cons, ih, UInt8.xor_assoc]
theorem at_out (l : List UInt8) (j : Nat) (h : l.length ≤ j) : at_ l j = 0 := by
  unfold at_
  rw [List.getElem?_eq_none h]
  rfl
theorem ext_at {a b : List UInt8} (hl : a.length = b.length) (h : ∀ j, at_ a j = at_ b j) : a = b := by
  rw [tab_of a, tab_of b, hl]
  exact tab_ext fun j _ => h j
theorem at_xorB (a b : List UInt8) (j : Nat) (h : b.length = a.length) : at_ (xorB a b) j = at_ a j ^^^ at_ b j := by
  rcases Nat.lt_or_ge j a.length with hj | hj
  · exact xorB_at a b j hj
  · rw [at_out _ _ (by rw [xorB_len]; exact hj), at_out a j hj, at_out b j (by omega), UInt8.xor_self]
theorem at_xors (j : Nat) : ∀ (ls : List (List UInt8)) (z : List UInt8), (∀ l ∈ ls, l.length = z.length) → at_ (xors z ls) j = at_ z j ^^^ xa (ls.map (at_ · j))
  | [], z, _ => by simp [xors, xa_nil]
  | l :: ls, z, h => by
    show at_ (xors (xorB z l) ls) j = _
    rw [at_xors j ls (xorB z l) (fun m hm => by rw [xorB_len]; exact h m (.tail _ hm)), at_xorB z l j (h l (.head _)), List.map_cons, xa_cons, UInt8.xor_assoc]
theorem at_zeros (n j : Nat) : at_ (List.replicate n 0) j = 0 := by
  unfold at_
  rw [List.getElem?_replicate]
  split <;> rfl
theorem at_upon {n : Nat} {ls : List (List UInt8)} (h : ∀ l ∈ ls, l.length = n) (j : Nat) : at_ (xors (List.replicate n 0) ls) j = xa (ls.map (at_ · j)) := by
  rw [at_xors j ls _ (fun l hl => by rw [List.length_replicate]; exact h l hl), at_zeros, UInt8.zero_xor]
theorem first_len {n : Nat} {ls : List (List UInt8)} (h0 : 0 < ls.length) (h : ∀ l ∈ ls, l.length = n) : (ls[0]?.getD []).length = n := by
  rw [List.getElem?_eq_getElem h0]
  exact h _ (List.getElem_mem h0)
theorem at_xorOf {n : Nat} {ls : List (List UInt8)} (h0 : 0 < ls.length) (h : ∀ l ∈ ls, l.length = n) (j : Nat) : at_ (xorOf ls) j = xa (ls.map (at_ · j)) := by
  unfold xorOf
  rw [first_len h0 h]
  exact at_upon h j
theorem xorOf_len_of {n : Nat} {ls : List (List UInt8)} (h0 : 0 < ls.length) (h : ∀ l ∈ ls, l.length = n) : (xorOf ls).length = n := by
  rw [xorOf_len, first_len h0 h]

/-- The byte j of the cell of a column and a row. -/
def by_ (css : List (List (List UInt8))) (j c r : Nat) : UInt8 := at_ (cellOf_ css c r) j
/-- The byte j of the cells of a diagonal, put upon one another. -/
def dg_ (p : Int) (css : List (List (List UInt8))) (j : Nat) (k : Int) : UInt8 := xa ((diagAt p k p.toNat).map fun x => by_ css j x.1 x.2)
def adjOf (p : Int) (css : List (List (List UInt8))) : List UInt8 := xorOf (diagOf p (p - 1) css)
def rowsMade (R : Nat) (css : List (List (List UInt8))) : List (List UInt8) := (List.range R).map fun r => xorOf (rowOf css r)
def diagsMade (p : Int) (R : Nat) (css : List (List (List UInt8))) : List (List UInt8) := (List.range R).map fun (r : Nat) => xorOf ([adjOf p css] ++ diagOf p r css)
/-- The columns that EVENODD makes. -/
def encOf (p : Int) (css : List (List (List UInt8))) : List (List (List UInt8)) := [rowsMade (p - 1).toNat css, diagsMade p (p - 1).toNat css]
section
variable {p : Int} {css : List (List (List UInt8))}
theorem dataOk_n (h : DataOk p css) : css.length = p.toNat ∧ 3 ≤ p.toNat ∧ p.toNat ≤ 17 ∧ (p.toNat : Int) = p ∧ (p - 1).toNat = p.toNat - 1 := by
  have hpp := prm_bounds h.1.2
  have := h.2.1
  omega
theorem rowOf_ok (h : DataOk p css) {r : Nat} (hr : r < (p - 1).toNat) : ∀ l ∈ rowOf css r, l.length = (firstC css).length := by
  intro l hl
  unfold rowOf at hl
  obtain ⟨cs, hcs, rfl⟩ := List.mem_map.1 hl
  obtain ⟨c, hc, rfl⟩ := List.getElem_of_mem hcs
  have := togOk_cell h.2.2 hc hr
  unfold cellOf_ at this
  rwa [List.getElem?_eq_getElem hc] at this
theorem rowOf_pos (h : DataOk p css) (r : Nat) : 0 < (rowOf css r).length := by
  rw [rowOf_len]
  exact h.2.2.1
theorem at_row (h : DataOk p css) {r : Nat} (hr : r < (p - 1).toNat) (j : Nat) : at_ (xorOf (rowOf css r)) j = xa ((List.range p.toNat).map fun c => by_ css j c r) := by
  rw [at_xorOf (rowOf_pos h r) (rowOf_ok h hr)]
  have e : (rowOf css r).map (at_ · j) = (List.range p.toNat).map fun c => by_ css j c r := by
    apply List.ext_getElem
    · rw [List.length_map, rowOf_len, List.length_map, List.length_range, (dataOk_n h).1]
    · intro c h1 h2
      rw [List.length_map, rowOf_len] at h1
      rw [List.getElem_map, List.getElem_map, List.getElem_range]
      unfold by_ cellOf_ rowOf
      rw [List.getElem_map, List.getElem?_eq_getElem h1]
      rfl
  rw [e]
theorem map_diag (j : Nat) (k : Int) : (diagOf p k css).map (at_ · j) = (diagAt p k p.toNat).map fun x => by_ css j x.1 x.2 := by
  unfold diagOf
  rw [List.map_map]
  rfl
theorem at_diag (h : DataOk p css) {k : Int} (h0 : 0 ≤ k) (h1 : k < p) (j : Nat) : at_ (xorOf (diagOf p k css)) j = dg_ p css j k := by
  rw [at_xorOf (diagOf_pos h.1.2 h0 h1) (diagOf_ok h h0 h1), map_diag]
  rfl
theorem adjOf_len (h : DataOk p css) : (adjOf p css).length = (firstC css).length := by
  have := dataOk_n h
  exact xorOf_len_of (diagOf_pos h.1.2 (by omega) (by omega)) (diagOf_ok h (by omega) (by omega))
theorem adjDiag_ok (h : DataOk p css) {r : Nat} (hr : (r : Int) < p) : ∀ l ∈ [adjOf p css] ++ diagOf p r css, l.length = (firstC css).length := by
  intro l hl
  rcases List.mem_append.1 hl with hl | hl
  · rw [List.mem_singleton.1 hl]
    exact adjOf_len h
  · exact diagOf_ok h (by omega) hr l hl
theorem at_diagMade (h : DataOk p css) {r : Nat} (hr : (r : Int) < p) (j : Nat) : at_ (xorOf ([adjOf p css] ++ diagOf p r css)) j = dg_ p css j (p - 1) ^^^ dg_ p css j r := by
  have := dataOk_n h
  rw [at_xorOf (by simp) (adjDiag_ok h hr), List.map_append, List.map_singleton, xa_append, xa_cons, xa_nil, UInt8.xor_zero, map_diag]
  unfold adjOf
  rw [at_diag h (by omega) (by omega)]
  rfl
theorem rowsMade_at (h : DataOk p css) {r : Nat} (hr : r < (p - 1).toNat) : (rowsMade (p - 1).toNat css)[r]?.getD [] = xorOf (rowOf css r) := by
  unfold rowsMade
  rw [List.getElem?_map, List.getElem?_range hr]
  rfl
theorem diagsMade_at (h : DataOk p css) {r : Nat} (hr : r < (p - 1).toNat) : (diagsMade p (p - 1).toNat css)[r]?.getD [] = xorOf ([adjOf p css] ++ diagOf p r css) := by
  unfold diagsMade
  rw [List.getElem?_map, List.getElem?_range hr]
  rfl
theorem rowsMade_len (R : Nat) : (rowsMade R css).length = R := by unfold rowsMade; simp
theorem diagsMade_len (R : Nat) : (diagsMade p R css).length = R := by unfold diagsMade; simp
theorem row_len (h : DataOk p css) {r : Nat} (hr : r < (p - 1).toNat) : (xorOf (rowOf css r)).length = (firstC css).length := xorOf_len_of (rowOf_pos h r) (rowOf_ok h hr)
theorem diag_len (h : DataOk p css) {r : Nat} (hr : (r : Int) < p) : (xorOf ([adjOf p css] ++ diagOf p r css)).length = (firstC css).length := xorOf_len_of (by simp) (adjDiag_ok h hr)
end
end Go.Proofs.YtfihlelhpmjpaaaGreatDoor.E

