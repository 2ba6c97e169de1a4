/- Cut. -/
import Derived.Test.YtjkpmhannmbgfaaCwG
namespace Go.Proofs.Ytjkpmhannmbgfaa
open Go.RowKit Go.Shelf

/-- The value v reads as the lists ls; all of it lies in blocks from base on. -/
def FreshMany (base : Nat) (W : World) (v : Value) (ls : List (List UInt8)) : Prop :=
  ∃ A cap, v = .slice A ls.length cap ∧ ls.length ≤ cap ∧ (0 < ls.length → ∃ b off, A = some ⟨b, off, none⟩ ∧ base ≤ b ∧ b < W.heap.size ∧ ∀ j, j < ls.length → ∃ u, W.cell? ⟨b, off + j, none⟩ = some u ∧ Fresh base W u (ls[j]?.getD []))

section
variable {W W' : World} {base base' : Nat} {v : Value} {ls : List (List UInt8)}
theorem FreshMany.many (h : FreshMany base W v ls) : Many W.heap.size W v ls := by
  obtain ⟨A, cap, e, hc, hA⟩ := h
  refine ⟨A, cap, e, hc, fun hp => ?_⟩
  obtain ⟨b, off, e2, _, hb, hcell⟩ := hA hp
  refine ⟨b, off, e2, hb, fun j hj => ?_⟩
  obtain ⟨u, hu, hF⟩ := hcell j hj
  exact ⟨u, hu, hF.bytes⟩
theorem FreshMany.keep (h : FreshMany base W v ls) (hs : W.heap.size ≤ W'.heap.size) (hk : ∀ p : Addr, base ≤ p.block → p.block < W.heap.size → W'.cell? p = W.cell? p) : FreshMany base W' v ls := by
  obtain ⟨A, cap, e, hc, hA⟩ := h
  refine ⟨A, cap, e, hc, fun hp => ?_⟩
  obtain ⟨b, off, e2, hb1, hb2, hcell⟩ := hA hp
  refine ⟨b, off, e2, hb1, by omega, fun j hj => ?_⟩
  obtain ⟨u, hu, hF⟩ := hcell j hj
  exact ⟨u, (hk ⟨b, off + j, none⟩ hb1 hb2).trans hu, hF.keep hs hk⟩
theorem FreshMany.below (h : FreshMany base W v ls) (hb : Below W.heap.size W W') : FreshMany base W' v ls := h.keep hb.size fun _ _ hp => hb.cell hp
theorem FreshMany.set_ (h : FreshMany base W v ls) {p : Addr} (hp : p.block < base) (u : Value) : FreshMany base (W.setCell p u) v ls :=
  h.keep (by simp [World.setCell]) fun q hq _ => World.cell?_of_block (Below.heap_setCell W p u q.block (by omega))
theorem FreshMany.less (h : FreshMany base W v ls) (hb : base' ≤ base) : FreshMany base' W v ls := by
  obtain ⟨A, cap, e, hc, hA⟩ := h
  refine ⟨A, cap, e, hc, fun hp => ?_⟩
  obtain ⟨b, off, e2, hb1, hb2, hcell⟩ := hA hp
  refine ⟨b, off, e2, by omega, hb2, fun j hj => ?_⟩
  obtain ⟨u, hu, hF⟩ := hcell j hj
  exact ⟨u, hu, hF.less hb⟩
end

/-- Bytes cut into cells of length n. -/
def cutL (n : Nat) (l : List UInt8) : List (List UInt8) := (List.range (cellsFor l.length n)).map fun j => tab n (fun i => at_ l (j * n + i))
theorem cutL_len (n : Nat) (l : List UInt8) : (cutL n l).length = cellsFor l.length n := by simp [cutL]
theorem cutL_at (n : Nat) (l : List UInt8) (j : Nat) (hj : j < cellsFor l.length n) : (cutL n l)[j]?.getD [] = tab n (fun i => at_ l (j * n + i)) := by simp [cutL, hj]

theorem cut_fresh {W : World} {g g2 n q base : Nat} {l : List UInt8} (hq : q = cellsFor l.length n) (hB : Blk W g2 25 (cutAt g n q q)) (hR : Row W g (tab (q * n) (at_ l))) (h1 : base ≤ g) (h2 : base ≤ g2) :
    FreshMany base W (.slice (some ⟨g2, 0, none⟩) q q) (cutL n l) := by
  refine ⟨some ⟨g2, 0, none⟩, q, by rw [cutL_len, hq], by rw [cutL_len, hq]; exact Nat.le_refl _, fun _ => ⟨g2, 0, rfl, h2, hB.lt, fun j hj => ?_⟩⟩
  rw [cutL_len, ← hq] at hj
  refine ⟨.slice (some ⟨g, j * n, none⟩) n n, ?_, ?_⟩
  · rw [Nat.zero_add, hB.cell, cutAt_get _ _ _ _ _ hj, if_pos hj]
  · rw [cutL_at n l j (by omega)]
    refine ⟨some ⟨g, j * n, none⟩, n, by rw [tab_len], by rw [tab_len]; exact Nat.le_refl _, fun _ => ⟨g, j * n, rfl, h1, hR.lt, fun i hi => ?_⟩⟩
    rw [tab_len] at hi
    have hlt : j * n + i < q * n := by
      have := Nat.mul_le_mul_right n (show j + 1 ≤ q from hj)
      rw [Nat.succ_mul] at this
      omega
    rw [hR.cell (k := j * n + i) (by rw [tab_len]; exact hlt)]
    have e1 := tab_at (q * n) (at_ l) (j * n + i) hlt
    have e2 := tab_at n (fun i => at_ l (j * n + i)) i hi
    exact congrArg (fun x : UInt8 => some (Value.int .u8 (x.toNat : Int))) (e1.trans e2.symm)

theorem enter_cut (args : Array Value) (w : World) : (callFunc 40 args).run Try.prog w = .ok (.enter 40 args) w := (enters_of Try.func40 (by kernel_rfl) rfl) args w

set_option maxHeartbeats 400000 in
theorem cut1_yes (v : Value) (l : List UInt8) (n : Nat) (h1 : 1 ≤ n) (h64 : n ≤ 64) (hlen : l.length ≤ 1048576) (gn gb : Nat) (w : World) (hgn : gn < w.heap.size) (hgb : gb < w.heap.size) (hb : Bytes w.heap.size w v l)
    (cn : w.cell? ⟨gn, 0, none⟩ = some (.int .i64 (n : Int))) (cb : w.cell? ⟨gb, 0, none⟩ = some v) :
    Calls Try.prog 40 #[.pointer (some ⟨gn, 0, none⟩), .pointer (some ⟨gb, 0, none⟩)] w fun e w' => ∃ v, e = .returned v ∧ FreshMany w.heap.size w' v (cutL n l) ∧ Below w.heap.size w w' := by
  have hL := fun W : World => isLength_any (n : Int) W
  rw [decide_eq_true (show 1 ≤ (n : Int) ∧ (n : Int) ≤ 64 by omega)] at hL
  have HL := Lib.hid hL
  have HF := Lib.hid (fun (W : World) (hB : Below w.heap.size w W) => filled_any v l n h1 h64 hlen W ((hb.below hB).more hB.size))
  have hq2 : cellsFor l.length n ≤ 2000000 := by
    have e1 := cellsFor_le l.length n h1
    have e2 := Nat.le_mul_of_pos_right (cellsFor l.length n) h1
    omega
  have HC := Lib.hid (fun (W : World) (g : Nat) (hR : Row W g (tab (cellsFor l.length n * n) (at_ l))) => cutUp_any g n (cellsFor l.length n) (cellsFor l.length n * n) _ h1 h64 rfl hq2 W hR)
  have HE : Hid (∀ {W : World} {g g2 base : Nat}, Blk W g2 25 (cutAt g n (cellsFor l.length n) (cellsFor l.length n)) → Row W g (tab (cellsFor l.length n * n) (at_ l)) → base ≤ g → base ≤ g2 → FreshMany base W (.slice (some ⟨g2, 0, none⟩) (cellsFor l.length n) (cellsFor l.length n)) (cutL n l)) := fun a b c d => cut_fresh rfl a b c d
  clear hL hlen h1 h64 hq2 hb
  generalize cellsFor l.length n = q at *
  generalize q * n = N at *
  go_enter Try.func40, Try.ntmps40
  go_wp2_with (first | (go_at_call 42; refine (HL.out _).mono ?_; rintro e w' ⟨rfl, rfl⟩) | (go_at_call 41; refine (need_yes _).mono ?_; rintro e w' ⟨rfl, rfl⟩))
  go_region_held3 (fun W => W.cell? ⟨gn, 0, none⟩ = some (.int .i64 (n : Int)) ∧ W.cell? ⟨gb, 0, none⟩ = some v)
    (first | exact ⟨cn, cb⟩ | exact ⟨(Below.cell (p := ⟨gn, 0, none⟩) hBa hgn).trans cn, (Below.cell (p := ⟨gb, 0, none⟩) hBa hgb).trans cb⟩ | exact ⟨(Below.cell (p := ⟨gn, 0, none⟩) hBb hgn).trans cn, (Below.cell (p := ⟨gb, 0, none⟩) hBb hgb).trans cb⟩) (first
    | (go_at_call 44; refine (HF.out _ ?_).mono ?_; first | exact Below.refl _ _ | exact (Below.refl _ _).drew; rintro e w1 ⟨g, rfl, hg, hR, hB1⟩; have hBa : Below w.heap.size w w1 := (by first | exact hB1 | exact Below.undrew hB1))
    | (go_at_call 43; refine (HC.out _ g hR).mono ?_; rintro e w2 ⟨g2, rfl, hg2, hC2, hR2, hB2⟩; have hBb : Below w.heap.size w w2 := Below.next hBa hB2))
  all_goals go_wp2
  all_goals go_ret
  all_goals exact ⟨_, rfl, HE.out hC2 hR2 hg (Nat.le_trans hBa.size hg2), hBb⟩

set_option maxHeartbeats 400000 in
theorem cut1_no (n : Int) (h1 : ¬ (1 ≤ n ∧ n ≤ 64)) (gn : Nat) (p : Value) (w : World) (cn : w.cell? ⟨gn, 0, none⟩ = some (.int .i64 n)) :
    Calls Try.prog 40 #[.pointer (some ⟨gn, 0, none⟩), p] w fun e w' => e = .panicked gaveUp ∧ Below w.heap.size w w' := by
  have hL := fun W : World => isLength_any n W
  rw [decide_eq_false h1] at hL
  have HL := Lib.hid hL
  clear hL h1
  go_enter Try.func40, Try.ntmps40
  go_wp2_with (first | (go_at_call 42; refine (HL.out _).mono ?_; rintro e w' ⟨rfl, rfl⟩) | (go_at_call 41; refine (need_no _).mono ?_; rintro e w' ⟨rfl, rfl⟩))
  exact ⟨rfl, rfl, Below.refl _ _⟩

set_option maxHeartbeats 400000 in
theorem cut_yes (v : Value) (l : List UInt8) (n : Nat) (h1 : 1 ≤ n) (h64 : n ≤ 64) (hlen : l.length ≤ 1048576) (w : World) (hb : Bytes w.heap.size w v l) :
    Calls Try.prog 21 #[v, .int .i64 (n : Int)] w fun e w' => ∃ v, e = .returned (.tuple #[v, .int .i64 0]) ∧ FreshMany w.heap.size w' v (cutL n l) ∧ Below w.heap.size w w' := by
  have hmf := make_func
  obtain ⟨W0, hW0⟩ : ∃ W0, (w.alloc (.cells #[v] 25)).alloc (.cells #[.int .i64 (n : Int)] 3) = W0 := ⟨_, rfl⟩
  have b0 : Blk W0 w.heap.size 25 #[v] := by rw [← hW0]; exact (Blk.new w _ _).alloc _
  have b1 : Blk W0 (w.heap.size + 1) 3 #[.int .i64 (n : Int)] := by
    rw [← hW0]; have := Blk.new (w.alloc (.cells #[v] 25)) 3 #[.int .i64 (n : Int)]; rwa [World.size_alloc] at this
  have hB0 : Below w.heap.size w W0 := by rw [← hW0]; exact ((Below.refl _ w).alloc (Nat.le_refl _) _).alloc (by simp) _
  have hs0 : W0.heap.size = w.heap.size + 2 := by rw [← hW0]; simp
  have HA := Lib.hid (answeredM_yes 40 #[.pointer (some ⟨w.heap.size + 1, 0, none⟩), .pointer (some ⟨w.heap.size, 0, none⟩)] W0 (fun u W => FreshMany (W0.heap.size + 1) W u (cutL n l)) (fun W => enter_cut _ W)
    (fun W hBW hlt => (cut1_yes v l n h1 h64 hlen (w.heap.size + 1) w.heap.size W (by omega) (by omega) (((hb.below hB0).more hB0.size).below hBW |>.more hBW.size) (b1.below hBW (by omega)).one (b0.below hBW (by omega)).one).mono (by rintro e w' ⟨u, rfl, hF, hB'⟩; exact ⟨u, rfl, hF.less hlt, hB'⟩))
    (fun v W hF => hF.set_ (by simp) _))
  obtain ⟨A, cap, rfl, _, _⟩ := id hb
  clear b0 b1
  go_enter Try.func21, Try.ntmps21
  go_wp2_with (go_at_call 39; refine HA.out.mono ?_; rintro e w1 ⟨v, rfl, hF, hBr⟩)
  go_ret2
  exact ⟨v, rfl, hF.less (by omega), hB0.trans (hBr.mono (by omega))⟩

set_option maxHeartbeats 400000 in
theorem cut_no (v : Value) (l : List UInt8) (n : Int) (h1 : ¬ (1 ≤ n ∧ n ≤ 64)) (w : World) (hb : Bytes w.heap.size w v l) :
    Calls Try.prog 21 #[v, .int .i64 n] w fun e w' => e = .returned (.tuple #[.slice none 0 0, .int .i64 2]) ∧ Below w.heap.size w w' := by
  have hmf := make_func
  obtain ⟨W0, hW0⟩ : ∃ W0, (w.alloc (.cells #[v] 25)).alloc (.cells #[.int .i64 n] 3) = W0 := ⟨_, rfl⟩
  have b1 : Blk W0 (w.heap.size + 1) 3 #[.int .i64 n] := by
    rw [← hW0]; have := Blk.new (w.alloc (.cells #[v] 25)) 3 #[.int .i64 n]; rwa [World.size_alloc] at this
  have hB0 : Below w.heap.size w W0 := by rw [← hW0]; exact ((Below.refl _ w).alloc (Nat.le_refl _) _).alloc (by simp) _
  have hs0 : W0.heap.size = w.heap.size + 2 := by rw [← hW0]; simp
  have HA := Lib.hid (answeredM_no 40 #[.pointer (some ⟨w.heap.size + 1, 0, none⟩), .pointer (some ⟨w.heap.size, 0, none⟩)] W0 (fun W => enter_cut _ W)
    (fun W hBW hlt => cut1_no n h1 (w.heap.size + 1) _ W (b1.below hBW (by omega)).one))
  obtain ⟨A, cap, rfl, _, _⟩ := id hb
  clear b1
  go_enter Try.func21, Try.ntmps21
  go_wp2_with (go_at_call 39; refine HA.out.mono ?_; rintro e w1 ⟨rfl, hBr⟩)
  go_ret2
  exact ⟨rfl, hB0.trans (hBr.mono (by omega))⟩
end Go.Proofs.Ytjkpmhannmbgfaa
