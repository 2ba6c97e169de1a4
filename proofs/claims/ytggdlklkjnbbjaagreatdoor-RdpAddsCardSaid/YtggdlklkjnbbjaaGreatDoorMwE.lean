/- Walks: the function that walk hands back goes over their places. -/
import Derived.Test.YtggdlklkjnbbjaaGreatDoorMwD
namespace Go.Proofs.YtggdlklkjnbbjaaGreatDoor
open Go.RowKit Go.Shelf
attribute [local go_sem] Oper.semAt_some

/-- The places of a walk. -/
def walkAt (p : Nat) (a s : Int) (k : Nat) : Int := (a + (k : Int) * s) % (p : Int)
def walkL (p : Nat) (a s : Int) : List Int := (List.range p).map (walkAt p a s)
theorem walkL_len (p : Nat) (a s : Int) : (walkL p a s).length = p := by simp [walkL]
theorem walkL_next (p : Nat) (a s : Int) (k : Nat) (hk : k < p) : (walkL p a s).take (k + 1) = (walkL p a s).take k ++ [walkAt p a s k] := by
  rw [take_next _ (by rw [walkL_len]; exact hk)]
  have : (walkL p a s)[k]?.getD 0 = walkAt p a s k := by
    unfold walkL
    rw [List.getElem?_map, List.getElem?_range hk]; rfl
  rw [this]
theorem walkAt_zero (p : Nat) (a s : Int) (h0 : 0 ≤ a) (h1 : a < p) : walkAt p a s 0 = a := by
  unfold walkAt
  rw [show (a + ((0 : Nat) : Int) * s) = a by simp]
  exact Int.emod_eq_of_lt h0 h1
theorem walkAt_next (p : Nat) (a s : Int) (k : Nat) : (walkAt p a s k + s) % (p : Int) = walkAt p a s (k + 1) := by
  unfold walkAt
  rw [Int.emod_add_emod]
  congr 1
  rw [Int.natCast_succ, Int.add_mul, Int.one_mul, Int.add_assoc]
theorem walkAt_lt (p : Nat) (hp : 0 < p) (a s : Int) (k : Nat) : 0 ≤ walkAt p a s k ∧ walkAt p a s k < p := by
  unfold walkAt
  exact ⟨Int.emod_nonneg _ (by omega), Int.emod_lt_of_pos _ (by omega)⟩

theorem wpIn_scope_wide {n : Nat} {P : Program} {Q : Exit → Act → World → Prop} {a : Act} {w : World} {c : Code} (h : c.wpIn Fence.wide n P (Exit.noGoto Q) a w) : (Code.scope c).wpIn Fence.wide n P Q a w :=
  wpIn_wide.2 (wp_scope_straight (wpIn_wide.1 h))
theorem grown_below {X Y : World} {row : Option Nat} (h : Below X.heap.size X Y) : X.grownBy Y row := ⟨h.os, h.tape, h.output, h.size, fun k hk _ => h.block k hk⟩
theorem grown_set {X Y : World} {g : Nat} (h : X.grownBy Y (some g)) (i : Nat) (v : Value) : X.grownBy (Y.setCell ⟨g, i, none⟩ v) (some g) :=
  ⟨h.os, h.tape, h.output, by simpa using h.size, fun k hk hne => (Below.heap_setCell Y _ v k (fun e => hne (by rw [e]))).trans (h.block k hk hne)⟩

set_option maxHeartbeats 400000 in
theorem walk_any (p : Nat) (hp : 0 < p) (hp2 : p ≤ 1000) (x s : Int) (w : World) (h1 : -9223372036854775808 ≤ s) (h2 : s ≤ 9223372036854775807) :
    Calls Tryz.prog 155 #[.agg #[.int .i64 p, .int .i64 x], .int .i64 s] w fun e w' =>
      ∃ g h, e = .returned (.func (.func 171) #[] #[.pointer (some ⟨g, 0, none⟩), .pointer (some ⟨h, 0, none⟩)]) ∧ Blk w' g 159 #[.int .i64 p, .int .i64 x] ∧ Blk w' h 157 #[.int .i64 (s % (p : Int))] ∧ w.heap.size ≤ h ∧ Below w.heap.size w w' := by
  have hmf := make_func
  have HO := Lib.hid (fun W => of_any p s W (by omega) (by omega) h1 h2)
  go_enter Tryz.func155, Tryz.ntmps155
  go_wp2_with (go_at_call 170; refine (HO.out _).mono ?_; rintro e w' ⟨rfl, rfl⟩)
  go_ret
  refine ⟨_, _, rfl, (Blk.new w _ _).alloc _, ?_, by omega, ((Below.refl _ w).alloc (Nat.le_refl _) _).alloc (by simp) _⟩
  have := Blk.new (w.alloc (.cells #[.int .i64 p, .int .i64 x] 159)) 157 #[.int .i64 (s % (p : Int))]
  rwa [World.size_alloc] at this

set_option maxRecDepth 100000 in
set_option maxHeartbeats 2000000 in
theorem walk1_in (n : Nat) (hn : 1 ≤ n) (l g h lo m p : Nat) (hp : 0 < p) (hp2 : p ≤ 1000) (a s : Int) (a0 : 0 ≤ a) (a1 : a < p) (s0 : 0 ≤ s) (s1 : s < p) (hh1 : lo ≤ h) (hh : h < lo + m) (W : World) (hnW : lo + m ≤ W.heap.size) (J Jx : List Int → World → Prop)
    (hJ : Spares W.heap.size 1 J)
    (hY : ∀ pre x W1, J pre W1 → pre.length < p → W.heap.size + 1 ≤ W1.heap.size → YieldAt Fence.wide (n - 1) Tryz.prog l #[.int .i64 x] W1 fun e W' => (e = .returned (.bool true) ∧ J (pre ++ [x]) W' ∧ Keep lo m W1 W' ∧ Keep W.heap.size 1 W1 W') ∨ (e = .returned (.bool false) ∧ Jx (pre ++ [x]) W'))
    (bg : Blk W g 159 #[.int .i64 p, .int .i64 a]) (bh : Blk W h 157 #[.int .i64 s]) (h0 : J [] W) :
    CallsIn Fence.wide n Tryz.prog 171 #[.func (.yield l) #[] #[], .pointer (some ⟨g, 0, none⟩), .pointer (some ⟨h, 0, none⟩)] W fun e W' => (∃ v, e = .returned v) ∧ ((∃ ys, ys = walkL p a s ∧ J ys W') ∨ (∃ pre, pre <+: walkL p a s ∧ Jx pre W')) := by
  have c0 : W.cell? ⟨g, 0, none⟩ = some (.int .i64 p) := bg.cell 0
  have c1 : W.cell? ⟨g, 1, none⟩ = some (.int .i64 a) := bg.cell 1
  refine callsIn_of_wp Tryz.func171 rfl trivial ?_ rfl
  simp only [Tryz.ntmps171, List.size_toArray, List.length_cons, List.length_nil, Nat.reduceAdd, Nat.reduceSub, Array.replicate_succ, Array.replicate_zero, List.push_toArray, List.append_toArray, List.nil_append, List.cons_append]
  refine wpIn_scope_wide ?_
  gi_wp2
  refine wpIn_label ?_
  obtain ⟨W0, hW0⟩ : ∃ W0, W.alloc (.cells #[.int .i64 p, .int .i64 a] 159) = W0 := ⟨_, rfl⟩
  have bD : Blk W0 W.heap.size 159 #[.int .i64 p, .int .i64 (walkAt p a s 0)] := by rw [← hW0, walkAt_zero p a s a0 (by omega)]; exact Blk.new W _ _
  have hJ0 : J [] W0 := by rw [← hW0]; exact hJ.lay h0 _
  have hB0 : Keep lo m W W0 := by rw [← hW0]; exact Keep.alloc hnW _
  rw [hW0]
  clear hW0
  have d0 : W0.cell? ⟨W.heap.size, 0, none⟩ = some (.int .i64 p) := bD.cell 0
  have d1 : W0.cell? ⟨W.heap.size, 1, none⟩ = some (.int .i64 (walkAt p a s 0)) := bD.cell 1
  gi_wp2
  clear d0 d1
  gi_loopw [8] (fun i wr => ∃ k : Nat, k ≤ p ∧ i = .int .i64 k ∧ Hid (J ((walkL p a s).take k) wr) ∧ Hid (Blk wr W.heap.size 159 #[.int .i64 p, .int .i64 (walkAt p a s k)]) ∧ Keep lo m W wr) (fun i _ => p - (intOf i).toNat)
  case atStart => exact ⟨0, Nat.zero_le _, rfl, Lib.hid hJ0, Lib.hid bD, hB0⟩
  case round =>
    obtain ⟨k, hk, rfl, HJ, HD, hB⟩ := hrel
    by_cases hlt : k < p
    · have hdec : decide ((k : Int) < (p : Int)) = true := by simp; omega
      have HT := Lib.hid (walkL_next p a s k hlt)
      have hx := walkAt_lt p hp a s k
      have HN := Lib.hid (walkAt_next p a s k)
      have hD := HD.out
      have e0 : wr.cell? ⟨W.heap.size, 0, none⟩ = some (.int .i64 p) := hD.cell 0
      have e1 : wr.cell? ⟨W.heap.size, 1, none⟩ = some (.int .i64 (walkAt p a s k)) := hD.cell 1
      have hsz := hD.lt
      have HY := Lib.hid (hY _ (walkAt p a s k) wr HJ.out (by rw [List.length_take, walkL_len]; omega) (by omega))
      have HW := Lib.hid (fun V => with_any 173 _ plus_any enter_plus p (walkAt p a s k) s V (by omega) (by omega) hx.1 (by omega) s0 (by omega) (by omega) (by omega))
      clear hD HJ
      simp only [HN.out] at HW
      generalize walkAt p a s k = x at *
      generalize hyy : walkAt p a s (k + 1) = y at *
      have HYY := Lib.hid hyy
      clear hyy
      obtain ⟨fn, tmps, assign, body, hy, hR⟩ := HY.out
      gi_wp2
      refine hR.mono ?_
      rintro e W3 (⟨rfl, hJ3, hk3, hkk⟩ | ⟨rfl, hJx3⟩)
      · have hD3 : Blk W3 W.heap.size 159 #[.int .i64 p, .int .i64 x] := (hkk.2 W.heap.size (Nat.le_refl _) (by omega)).trans HD.out
        have hB3 := hB.trans hk3
        have g0 : W3.cell? ⟨W.heap.size, 0, none⟩ = some (.int .i64 p) := hD3.cell 0
        have g1 : W3.cell? ⟨W.heap.size, 1, none⟩ = some (.int .i64 x) := hD3.cell 1
        have g2 : W3.cell? ⟨h, 0, none⟩ = some (.int .i64 s) := (hB3.blk bh hh1 hh).one
        have hl3 := hD3.lt
        gi_wp2_with (refine ⟨trivial, ?_⟩; gi_at_call 172; refine (callsIn_wide.2 (HW.out _)).mono ?_; rintro e W4 ⟨rfl, hB4⟩; have hD4 := hD3.below hB4 hD3.lt; have i0 := hD4.cell 0; have i1 := hD4.cell 1; have j0 := hD4.frozen 0; have j1 := hD4.frozen 1; simp only [List.getElem?_toArray, List.getElem?_cons_zero, List.getElem?_cons_succ] at i0 i1)
        go_roundw
        case rel =>
          refine ⟨k + 1, by omega, by go_num, Lib.hid ?_, Lib.hid (by rw [HYY.out]; exact (hD4.set_ 0 _).set_ 1 _), ((hB3.trans (Keep.below hB4 (by have := hB3.1; omega))).trans (Keep.setFar _ hnW _)).trans (Keep.setFar _ hnW _)⟩
          rw [HT.out]
          exact hJ _ W3 _ (some W.heap.size) hJ3 (grown_set (grown_set (grown_below hB4) 0 _) 1 _) (fun r e => by cases e; omega)
        case measure => simp [intOf]; omega
      · gi_wp2
        rw [Exit.noGoto_normal]
        go_end0
        exact ⟨⟨_, rfl⟩, .inr ⟨_, by rw [← HT.out]; exact List.take_prefix _ _, hJx3⟩⟩
    · obtain rfl : k = p := by omega
      have hdec : decide ((k : Int) < (k : Int)) = false := by simp
      have HF : Hid (J (walkL k a s) wr) := by have := HJ.out; rwa [List.take_of_length_le (by rw [walkL_len]; omega)] at this
      gi_wp2
      rw [Exit.noGoto_normal]
      go_end0
      exact ⟨⟨_, rfl⟩, .inl ⟨_, rfl, HF.out⟩⟩

theorem walk_goes (g h lo n₀ p : Nat) (hp : 0 < p) (hp2 : p ≤ 1000) (a s : Int) (a0 : 0 ≤ a) (a1 : a < p) (s0 : 0 ≤ s) (s1 : s < p) (w : World) (hh1 : lo ≤ h) (hh : h < n₀) (hn : n₀ ≤ w.heap.size)
    (bg : Blk w g 159 #[.int .i64 p, .int .i64 a]) (bh : Blk w h 157 #[.int .i64 s]) :
    Goes lo n₀ 171 #[.pointer (some ⟨g, 0, none⟩), .pointer (some ⟨h, 0, none⟩)] (walkL p a s) w :=
  ⟨1, fun n hn1 l J Jx W hW hJ _ hY h0 => by
    rw [walkL_len] at hY
    exact walk1_in n hn1 l g h lo (n₀ - lo) p hp hp2 a s a0 a1 s0 s1 hh1 (by omega) W (Nat.le_trans (by omega) (Nat.le_trans hn hW.size)) J Jx hJ hY (bg.below hW bg.lt) (bh.below hW bh.lt) h0⟩
theorem enter_walk1 : ∀ args W, (callFunc 171 args).run Tryz.prog W = .ok (.enter 171 args) W := enters_of Tryz.func171 (by kernel_rfl) rfl
end Go.Proofs.YtggdlklkjnbbjaaGreatDoor
