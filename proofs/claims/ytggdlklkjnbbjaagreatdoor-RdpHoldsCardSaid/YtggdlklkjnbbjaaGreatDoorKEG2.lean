/- The columns of EVENODD: giving up, what is answered; a prime of the code. The columns of EVENODD: columns that came in; what belongs together. The columns of EVENODD: together. The columns of EVENODD: what is answered. The columns of EVENODD: what is answered, of the rest. -/
import Derived.Test.YtggdlklkjnbbjaaGreatDoorKCA
import Derived.Test.YtggdlklkjnbbjaaGreatDoorKSA
namespace Go.Proofs.YtggdlklkjnbbjaaGreatDoor.E
open Go.RowKit Go.Shelf Go.Proofs.YtggdlklkjnbbjaaGreatDoor.C
set_option linter.unusedSimpArgs false
set_option linter.unusedVariables false

set_option maxHeartbeats 400000 in
theorem need_yes (w : World) : Calls Tryz.prog 83 #[.bool true] w fun e w' => e = .returned (.tuple #[]) ∧ w = w' := by
  go_enter Tryz.func83, Tryz.ntmps83
  go_wp2
  go_end0
  exact ⟨rfl, rfl⟩
set_option maxHeartbeats 400000 in
theorem need_no (w : World) : Calls Tryz.prog 83 #[.bool false] w fun e w' => e = .panicked gaveUp ∧ w = w' := by
  go_enter Tryz.func83, Tryz.ntmps83
  go_wp2
  exact ⟨rfl, rfl, rfl⟩
/-- What is answered when nothing gave up. -/
theorem idleB (p : Addr) (w : World) :
    CallsD Tryz.prog 82 #[.pointer (some p)] .returning w fun e u' w' => e = .returned (.tuple #[]) ∧ u' = .returning ∧ w' = w := by
  have hta := assert_errno
  refine callsD_of_wpS Tryz.func82 rfl fun c₀ cs hu => ?_
  simp only [Tryz.ntmps82, List.size_toArray, List.length_cons, List.length_nil, Nat.reduceAdd, Nat.reduceSub, Array.replicate_succ, Array.replicate_zero, List.push_toArray, List.append_toArray, List.nil_append, List.cons_append]
  apply wpS_seq
  apply wpS_region
  simp [wpOpsS, go_sem, recoverD, hu, Exit.thenS]
  all_goals (refine wpS_of_wp ?_; go_wp2; cases c₀; simp_all [bodyPostS, results, Tryz.results82])

set_option maxHeartbeats 400000 in
theorem answeredB_yes (f : Nat) (caps : Array Value) (w : World) (Post : Value → World → Prop) (hent : ∀ W, (callFunc f caps).run Tryz.prog W = .ok (.enter f caps) W)
    (h : ∀ W, Below w.heap.size w W → w.heap.size < W.heap.size → Calls Tryz.prog f caps W fun e w' => ∃ v, e = .returned v ∧ Post v w' ∧ Below W.heap.size W w')
    (hP : ∀ v W, Post v W → Post v (W.setCell ⟨w.heap.size, 0, none⟩ (.int .i64 0))) :
    Calls Tryz.prog 39 #[.func (.func f) #[] caps] w fun e w' => ∃ v, e = .returned (.tuple #[v, .int .i64 0]) ∧ Post v w' ∧ Below w.heap.size w w' := by
  have hmf : ∀ (fn : Fn) (first cap : Array Value) (w : World), (Instr.makeFunc fn first cap).run Tryz.prog w = .ok (.func fn first cap) w := fun _ _ _ _ => rfl
  have h1 := h (w.alloc (.cells #[.int .i64 0] 26)) ((Below.refl _ w).alloc (Nat.le_refl _) _) (by simp)
  go_enter_defers Tryz.func39, Tryz.ntmps39
  go_wp2
  refine h1.mono ?_
  rintro e w1 ⟨v, rfl, hv, hB1⟩
  have b1 : Blk w1 w.heap.size 26 #[.int .i64 0] := (Blk.new w _ _).below hB1 (by simp)
  have c1 := b1.cell 0
  have f1 := b1.frozen 0
  simp only [List.getElem?_toArray, List.getElem?_cons_zero] at c1
  go_wp2
  refine leaves_cons (f := 82) (args := #[.pointer (some ⟨w.heap.size, 0, none⟩)]) (by simp) (by simp [go_sem]) ?_
  refine (idleB ⟨w.heap.size, 0, none⟩ _).mono ?_
  rintro e u' w'' ⟨rfl, rfl, rfl⟩
  have c2 : (w1.setCell ⟨w.heap.size, 0, none⟩ (.int .i64 0)).cell? ⟨w.heap.size, 0, none⟩ = some (.int .i64 0) := World.cell?_setCell_same' _ _ _ (by rw [c1]; rfl)
  simp [Leaves, settle, results, Tryz.results39, go_sem, c2]
  exact ⟨hP _ _ hv, (((Below.refl _ w).alloc (Nat.le_refl _) _).trans (hB1.mono (by simp))).setCell (Nat.le_refl _) _⟩

set_option maxHeartbeats 400000 in
theorem sureI (n : Int) (w : World) : Calls Tryz.prog 84 #[.int .i64 n, .int .i64 0] w fun e w' => e = .returned (.int .i64 n) ∧ w = w' := by
  go_enter Tryz.func84, Tryz.ntmps84
  go_wp2
  go_ret
  exact ⟨rfl, rfl⟩
set_option maxHeartbeats 400000 in
theorem sureB (v : Value) (w : World) : Calls Tryz.prog 128 #[v, .int .i64 0] w fun e w' => e = .returned v ∧ w = w' := by
  go_enter Tryz.func128, Tryz.ntmps128
  go_wp2
  go_ret
  exact ⟨rfl, rfl⟩
set_option maxHeartbeats 400000 in
theorem code_any (p : Int) (w : World) : Calls Tryz.prog 86 #[.int .i64 p] w fun e w' => e = .returned (.agg #[.int .i64 1, .int .i64 p]) ∧ Below w.heap.size w w' := by
  go_enter Tryz.func86, Tryz.ntmps86
  go_wp2
  have b := Blk.new w 37 #[.int .i64 1, .int .i64 p]
  have c0 := b.cell 0
  have c1 := b.cell 1
  simp only [List.getElem?_toArray, List.getElem?_cons_zero, List.getElem?_cons_succ] at c0 c1
  exact bodyPost_ret (v := .agg #[.int .i64 1, .int .i64 p]) (by simp [results, Tryz.results86, go_sem, c0, c1]) rfl ⟨rfl, below_one w _⟩
set_option maxHeartbeats 400000 in
theorem last_any (p : Int) (hp : 0 ≤ p ∧ p ≤ 100) (w : World) : Calls Tryz.prog 90 #[.int .i64 p] w fun e w' => e = .returned (.int .i64 (p - 1)) ∧ Below w.heap.size w w' := by
  have hw : IntKind.i64.wrap (p - 1) = p - 1 := IntWalk.i64_in _ (by omega)
  go_enter Tryz.func90, Tryz.ntmps90
  go_wp2
  go_ret
  exact ⟨rfl, Below.refl _ _⟩
set_option maxHeartbeats 400000 in
theorem primeOf_yes (p : Int) (hR : RightC 1 p) (w : World) (hL : Laid w) : Calls Tryz.prog 49 #[.int .i64 p] w fun e w' => e = .returned (.int .i64 p) ∧ Below w.heap.size w w' := by
  have HC := Lib.hid (fun W hL => (shapeCheck_any 1 p W hL).mono fun e w' h => And.intro (h.1 hR) h.2.2)
  clear hR
  go_enter Tryz.func49, Tryz.ntmps49
  go_wp2_with (first
    | (go_at_call 86; refine (code_any p _).mono ?_; rintro e w1 ⟨rfl, hB1⟩; replace hL := hL.next hB1)
    | (go_at_call 98; refine (HC.out _ hL).mono ?_; rintro e w2 ⟨rfl, hB2⟩)
    | (go_at_call 83; refine (need_yes _).mono ?_; rintro e w3 ⟨rfl, rfl⟩))
  go_ret
  exact ⟨rfl, below_in hB1 hB2⟩
set_option maxHeartbeats 400000 in
theorem primeOf_no (p : Int) (hR : ¬ RightC 1 p) (w : World) (hL : Laid w) : Calls Tryz.prog 49 #[.int .i64 p] w fun e w' => e = .panicked gaveUp ∧ Below w.heap.size w w' := by
  have HC := Lib.hid (fun W hL => (shapeCheck_any 1 p W hL).mono fun e w' h => And.intro (h.2.1 hR) h.2.2)
  clear hR
  go_enter Tryz.func49, Tryz.ntmps49
  go_wp2_with (first
    | (go_at_call 86; refine (code_any p _).mono ?_; rintro e w1 ⟨rfl, hB1⟩; replace hL := hL.next hB1)
    | (go_at_call 98; refine (HC.out _ hL).mono ?_; rintro e w2 ⟨rfl, hB2⟩)
    | (go_at_call 83; refine (need_no _).mono ?_; rintro e w3 ⟨rfl, rfl⟩))
  exact ⟨rfl, rfl, below_in hB1 hB2⟩
set_option maxHeartbeats 400000 in
theorem rows_any (p : Int) (hR : RightC 1 p) (w : World) (hL : Laid w) : Calls Tryz.prog 93 #[.int .i64 p] w fun e w' => e = .returned (.int .i64 (p - 1)) ∧ Below w.heap.size w w' := by
  have HC := Lib.hid (fun W hL => (shapeRows_any 1 p W hL).mono fun _ _ h => (⟨h.1 hR, h.2.2⟩ : _ ∧ _))
  clear hR
  go_enter Tryz.func93, Tryz.ntmps93
  go_wp2_with (first
    | (go_at_call 86; refine (code_any p _).mono ?_; rintro e w1 ⟨rfl, hB1⟩; replace hL := hL.next hB1)
    | (go_at_call 134; refine (HC.out _ hL).mono ?_; rintro e w2 ⟨rfl, hB2⟩)
    | (go_at_call 84; refine (sureI _ _).mono ?_; rintro e w3 ⟨rfl, rfl⟩))
  go_ret
  exact ⟨rfl, below_in hB1 hB2⟩
set_option maxHeartbeats 400000 in
theorem data_any (p : Int) (hR : RightC 1 p) (w : World) (hL : Laid w) : Calls Tryz.prog 42 #[.int .i64 p] w fun e w' => e = .returned (.int .i64 p) ∧ Below w.heap.size w w' := by
  have HC := Lib.hid (fun W hL => (shapeData_any 1 p W hL).mono fun _ _ h => (⟨h.1 hR, h.2.2⟩ : _ ∧ _))
  rw [show shortN 1 = 0 from rfl, Int.sub_zero] at HC
  clear hR
  go_enter Tryz.func42, Tryz.ntmps42
  go_wp2_with (first
    | (go_at_call 86; refine (code_any p _).mono ?_; rintro e w1 ⟨rfl, hB1⟩; replace hL := hL.next hB1)
    | (go_at_call 85; refine (HC.out _ hL).mono ?_; rintro e w2 ⟨rfl, hB2⟩)
    | (go_at_call 84; refine (sureI _ _).mono ?_; rintro e w3 ⟨rfl, rfl⟩))
  go_ret
  exact ⟨rfl, below_in hB1 hB2⟩
end Go.Proofs.YtggdlklkjnbbjaaGreatDoor.E

namespace Go.Proofs.YtggdlklkjnbbjaaGreatDoor.E
open Go.RowKit Go.Shelf Go.Proofs.YtggdlklkjnbbjaaGreatDoor.C
set_option linter.unusedSimpArgs false
set_option linter.unusedVariables false

/-- The slice value v reads as columns, below block B. -/
def Cols (B : Nat) (W : World) (v : Value) (css : List (List (List UInt8))) : Prop :=
  ∃ A cap, v = .slice A css.length cap ∧ css.length ≤ cap ∧ (0 < css.length → ∃ b off, A = some ⟨b, off, none⟩ ∧ b < B ∧
    ∀ j, j < css.length → ∃ u, W.cell? ⟨b, off + j, none⟩ = some u ∧ Many B W u (css[j]?.getD []))
section
variable {W W' : World} {B B' : Nat} {v : Value} {css : List (List (List UInt8))}
theorem Cols.keep (h : Cols B W v css) (hk : ∀ p : Addr, p.block < B → W'.cell? p = W.cell? p) : Cols B W' v css := by
  obtain ⟨A, cap, e, hc, hA⟩ := h
  refine ⟨A, cap, e, hc, fun hp => ?_⟩
  obtain ⟨b, off, e1, hb, hr⟩ := hA hp
  refine ⟨b, off, e1, hb, fun j hj => ?_⟩
  obtain ⟨u, hu, hm⟩ := hr j hj
  exact ⟨u, (hk ⟨b, off + j, none⟩ hb).trans hu, hm.keep hk⟩
theorem Cols.below (h : Cols B W v css) (hb : Below B W W') : Cols B W' v css := h.keep fun _ hp => hb.cell hp
theorem Cols.at_ (h : Cols B W v css) (h0 : 0 < css.length) : ∃ b off cap, v = .slice (some ⟨b, off, none⟩) css.length cap ∧ css.length ≤ cap ∧ b < B ∧ ∀ j, j < css.length → ∃ u, W.cell? ⟨b, off + j, none⟩ = some u ∧ Many B W u (css[j]?.getD []) := by
  obtain ⟨A, cap, rfl, hc, hA⟩ := h
  obtain ⟨b, off, rfl, hb, hr⟩ := hA h0
  exact ⟨b, off, cap, rfl, hc, hb, hr⟩
end

set_option maxRecDepth 100000 in
set_option maxHeartbeats 1000000 in
theorem areAlike_any {B B' : Nat} (v1 v2 : Value) (one : List UInt8) (ls : List (List UInt8)) (w : World) (h1 : Bytes B w v1 one) (hM : Many B' w v2 ls) (hls : ls.length ≤ 1000) (b : Bool) (hb : b = true ↔ (Cell one ∧ AllLen one.length ls)) :
    Calls Tryz.prog 99 #[v1, v2] w fun e w' => e = .returned (.bool b) ∧ Below w.heap.size w w' := by
  have HC := Lib.hid (C.check_any (B := B) v1 one w h1)
  obtain ⟨A, cap, rfl, _, _⟩ := id hM
  obtain ⟨A1, cap1, rfl, _, _⟩ := id h1
  have HB := Lib.hid hb
  clear hb
  obtain ⟨q, hq⟩ : ∃ q, one.length = q := ⟨_, rfl⟩
  have HQ := Lib.hid hq
  rw [hq] at HC HB ⊢
  clear hq h1
  go_enter Tryz.func99, Tryz.ntmps99
  go_wp2
  go_loop [9] (fun i => ∃ k : Nat, k ≤ ls.length ∧ i = .int .i64 k ∧ Hid (∀ j, j < k → (ls[j]?.getD []).length = q)) (fun i => ls.length - (intOf i).toNat)
  case atStart => exact ⟨0, Nat.zero_le _, rfl, Lib.hid fun j hj => absurd hj (by omega)⟩
  case round =>
    obtain ⟨k, hk, rfl, HA⟩ := hrel
    by_cases hlt : k < ls.length
    · have hdec : decide ((k : Int) < (ls.length : Int)) = true := by simp; omega
      obtain ⟨b1, off, rfl, hb1, hrow⟩ := many_at hM (by omega)
      obtain ⟨A2, cp, hc, hB2⟩ := hrow k hlt
      clear hrow hB2
      have HL : Hid ((ls[k]?.getD []).length = q → ∀ j, j < k + 1 → (ls[j]?.getD []).length = q) := by
        intro h j hj
        rcases Nat.lt_or_ge j k with h1 | h1
        · exact HA.out j h1
        · obtain rfl : j = k := by omega
          exact h
      have HM : Hid (¬ (ls[k]?.getD []).length = q → ¬ AllLen q ls) := fun h h2 => h (h2 k hlt)
      generalize (ls[k]?.getD []).length = qq at hc HL HM
      by_cases hln : qq = q
      · have HL2 := Lib.hid (HL.out hln)
        subst hln
        have hne : ((qq : Int) != (qq : Int)) = false := by simp
        go_wp2
        go_round
        case rel => exact ⟨k + 1, by omega, by go_num, HL2⟩
        case measure => simp [intOf]; omega
      · have hne : ((qq : Int) != (q : Int)) = true := by simp; omega
        have HF : Hid (b = false) := by
          unfold Hid
          rw [Bool.eq_false_iff]
          exact fun h => HM.out hln ((HB.out).1 h).2
        have hnq : ¬ (qq : Int) = (q : Int) := by omega
        go_wp2
        go_ret
        exact ⟨ret_bool HF.out.symm, Below.refl _ _⟩
    · obtain rfl : k = ls.length := by omega
      have e1 : decide ((ls.length : Int) < (ls.length : Int)) = false := by simp
      by_cases hce : Cell one
      · rw [if_pos hce] at HC
        have HF : Hid (b = true) := (HB.out).2 ⟨hce, HA.out⟩
        clear HB HA
        go_wp2_with (go_at_call 137; refine HC.out.mono ?_; rintro e w1 ⟨rfl, hB1⟩)
        go_ret
        exact ⟨ret_bool HF.out.symm, hB1⟩
      · rw [if_neg hce] at HC
        have HF : Hid (b = false) := by
          unfold Hid
          rw [Bool.eq_false_iff]
          exact fun h => hce ((HB.out).1 h).1
        clear HB HA
        go_wp2_with (go_at_call 137; refine HC.out.mono ?_; rintro e w1 ⟨rfl, hB1⟩)
        go_ret
        exact ⟨ret_bool HF.out.symm, hB1⟩
end Go.Proofs.YtggdlklkjnbbjaaGreatDoor.E

namespace Go.Proofs.YtggdlklkjnbbjaaGreatDoor.E
open Go.RowKit Go.Shelf Go.Proofs.YtggdlklkjnbbjaaGreatDoor.C
set_option linter.unusedSimpArgs false
set_option linter.unusedVariables false

/-- The first cell of the first column. -/
def firstC (css : List (List (List UInt8))) : List UInt8 := ((css[0]?.getD [])[0]?.getD [])
/-- Columns belong together, and have R rows. -/
def TogOk (R : Nat) (css : List (List (List UInt8))) : Prop := 0 < css.length ∧ ∀ j, j < css.length → (css[j]?.getD []).length = R ∧ (Cell (firstC css) ∧ AllLen (firstC css).length (css[j]?.getD []))

set_option maxRecDepth 100000 in
set_option maxHeartbeats 1000000 in
theorem together_yes {B : Nat} (p : Int) (R : Nat) (hR : RightC 1 p) (hr : p - 1 = (R : Int)) (v : Value) (css : List (List (List UInt8))) (w : World) (hL : Laid w) (hB : B ≤ w.heap.size) (hC : Cols B w v css) (hlen : css.length ≤ 1000) (hok : TogOk R css) :
    Calls Tryz.prog 50 #[.int .i64 p, v] w fun e w' => e = .returned (.agg #[.int .i64 p, v]) ∧ Below w.heap.size w w' := by
  have HRw := Lib.hid (fun W hL => rows_any p hR W hL)
  rw [hr] at HRw
  have hR2 : 2 ≤ R := by have := hR.und.p1; omega
  have hR3 : R ≤ 16 := by have := hR.und.p2; omega
  obtain ⟨b0, off0, cap, rfl, hcap, hb0, hrow⟩ := hC.at_ hok.1
  have HRow := Lib.hid hrow
  have HOK := Lib.hid hok.2
  have hl0 := hok.1
  clear hr hR hC hrow hok
  go_enter Tryz.func50, Tryz.ntmps50
  have hBz := below_one w (.cells #[.int .i64 0, .slice none 0 0] 65)
  have bz := Blk.new w 65 #[.int .i64 0, .slice none 0 0]
  have hL1 := hL.next hBz
  have hd0 : decide (0 < (css.length : Int)) = true := by simp; omega
  go_wp2_with (go_at_call 83; refine (need_yes _).mono ?_; rintro e w3 ⟨rfl, rfl⟩)
  refine (HRw.out _ hL1).mono ?_
  rintro e w1 ⟨rfl, hB1⟩
  replace bz := bz.below hB1 bz.lt
  have hBw := below_in hBz hB1
  clear hBz hB1 hL1 HRw hL
  obtain ⟨u0, hu0, hm0⟩ := HRow.out 0 hl0
  have hlen0 := (HOK.out 0 hl0).1
  obtain ⟨A0, cap0, rfl, hcap0, _⟩ := id hm0
  obtain ⟨b1, off1, rfl, hb1, hrow1⟩ := many_at hm0 (by rw [hlen0]; omega)
  clear hm0 hcap0
  obtain ⟨c0v, hc0, hbc0⟩ := (by
    obtain ⟨A9, cp9, hc9, hB9⟩ := hrow1 0 (by rw [hlen0]; omega)
    exact ⟨_, hc9, hB9⟩ : ∃ c0v, w.cell? ⟨b1, off1 + 0, none⟩ = some c0v ∧ Bytes B w c0v (firstC css))
  rw [hlen0, Nat.add_zero] at hu0
  rw [Nat.add_zero] at hc0
  clear hrow1
  go_wp2
  go_loopw [16] (fun i wr => ∃ k : Nat, k ≤ css.length ∧ i = .int .i64 k ∧ Blk wr w.heap.size 65 #[.int .i64 0, .slice none 0 0] ∧ Below w.heap.size w wr) (fun i _ => css.length - (intOf i).toNat)
  case atStart => exact ⟨0, Nat.zero_le _, rfl, bz, hBw⟩
  case round =>
    clear bz hBw
    obtain ⟨k, hk, rfl, bz, hBr⟩ := hrel
    by_cases hlt : k < css.length
    · have hdec : decide ((k : Int) < (css.length : Int)) = true := by simp; omega
      obtain ⟨u, hu, hmu⟩ := HRow.out k hlt
      obtain ⟨hlk, hce, hal⟩ := HOK.out k hlt
      obtain ⟨Au, capu, rfl, _, _⟩ := id hmu
      have HA0 := areAlike_any c0v (.slice Au (css[k]?.getD []).length capu) (firstC css) (css[k]?.getD []) wr (hbc0.below (hBr.mono hB)) (hmu.below (hBr.mono hB)) (by omega) true (by simp [hce, hal])
      rw [hlk] at hu HA0
      have HA := Lib.hid HA0
      clear HA0
      have x0 : wr.cell? ⟨b0, off0, none⟩ = some (.slice (some ⟨b1, off1, none⟩) R cap0) := (hBr.cell (p := ⟨b0, off0, none⟩) (by exact Nat.lt_of_lt_of_le hb0 hB)).trans hu0
      have xk : wr.cell? ⟨b0, off0 + k, none⟩ = some (.slice Au R capu) := (hBr.cell (p := ⟨b0, off0 + k, none⟩) (by exact Nat.lt_of_lt_of_le hb0 hB)).trans hu
      have y0 : wr.cell? ⟨b1, off1, none⟩ = some c0v := (hBr.cell (p := ⟨b1, off1, none⟩) (by exact Nat.lt_of_lt_of_le hb1 hB)).trans hc0
      have hRR : ((R : Int) == (R : Int)) = true := by simp
      have i1 : (0 : Int) < (R : Int) := by omega
      have i2 : (0 : Int) < (css.length : Int) := by omega
      go_wp2_with (first
        | (go_at_call 99; refine HA.out.mono ?_; rintro e w4 ⟨rfl, hB4⟩)
        | (go_at_call 83; refine (need_yes _).mono ?_; rintro e w3 ⟨rfl, rfl⟩))
      go_roundw
      case rel => exact ⟨k + 1, by omega, by go_num, bz.below hB4 bz.lt, below_in hBr hB4⟩
      case measure => simp [intOf]; omega
    · obtain rfl : k = css.length := by omega
      have e1 : decide ((css.length : Int) < (css.length : Int)) = false := by simp
      have g0 := bz.cell 0
      have g1 := bz.cell 1
      have f0 := bz.frozen 0
      have f1 := bz.frozen 1
      simp only [List.getElem?_toArray, List.getElem?_cons_zero, List.getElem?_cons_succ] at g0 g1
      go_wp2
      have r := (bz.set_ 0 (.int .i64 p)).set_ 1 (.slice (some ⟨b0, off0, none⟩) css.length cap)
      have r0 := r.cell 0
      have r1 := r.cell 1
      simp only [List.setIfInBounds_toArray, List.set_cons_zero, List.set_cons_succ, List.getElem?_toArray, List.getElem?_cons_zero, List.getElem?_cons_succ] at r0 r1
      exact bodyPost_ret (v := .agg #[.int .i64 p, .slice (some ⟨b0, off0, none⟩) css.length cap]) (by simp [results, Tryz.results50, go_sem, r0, r1]) rfl ⟨rfl, (hBr.setCell (by simp) _).setCell (by simp) _⟩

set_option maxRecDepth 100000 in
set_option maxHeartbeats 1000000 in
theorem together_no {B : Nat} (p : Int) (R : Nat) (hR : RightC 1 p) (hr : p - 1 = (R : Int)) (v : Value) (css : List (List (List UInt8))) (w : World) (hL : Laid w) (hB : B ≤ w.heap.size) (hC : Cols B w v css) (hlen : css.length ≤ 1000) (hcl : ∀ j, j < css.length → (css[j]?.getD []).length ≤ 1000) (hno : ¬ TogOk R css) :
    Calls Tryz.prog 50 #[.int .i64 p, v] w fun e w' => e = .panicked gaveUp ∧ Below w.heap.size w w' := by
  have HRw := Lib.hid (fun W hL => rows_any p hR W hL)
  rw [hr] at HRw
  have hR2 : 2 ≤ R := by have := hR.und.p1; omega
  have hR3 : R ≤ 16 := by have := hR.und.p2; omega
  have HNO := Lib.hid hno
  have HCL := Lib.hid hcl
  clear hno hcl
  have hBz := below_one w (.cells #[.int .i64 0, .slice none 0 0] 65)
  have bz := Blk.new w 65 #[.int .i64 0, .slice none 0 0]
  have hL1 := hL.next hBz
  by_cases hl0 : 0 < css.length
  case neg =>
    have hd0 : decide (0 < (css.length : Int)) = false := decide_eq_false (by omega)
    obtain ⟨A, cap, rfl, _, _⟩ := id hC
    clear hr hR hC HNO
    go_enter Tryz.func50, Tryz.ntmps50
    go_wp2_with (go_at_call 83; refine (need_no _).mono ?_; rintro e w3 ⟨rfl, rfl⟩)
    exact ⟨rfl, rfl, hBz⟩
  obtain ⟨b0, off0, cap, rfl, hcap, hb0, hrow⟩ := hC.at_ hl0
  have HRow := Lib.hid hrow
  clear hr hR hC hrow
  have hd0 : decide (0 < (css.length : Int)) = true := by simp; omega
  go_enter Tryz.func50, Tryz.ntmps50
  go_wp2_with (go_at_call 83; refine (need_yes _).mono ?_; rintro e w3 ⟨rfl, rfl⟩)
  refine (HRw.out _ hL1).mono ?_
  rintro e w1 ⟨rfl, hB1⟩
  have hBw := below_in hBz hB1
  clear hBz hB1 hL1 HRw hL bz
  obtain ⟨u0, hu0, hm0⟩ := HRow.out 0 hl0
  obtain ⟨A0, cap0, rfl, hcap0, _⟩ := id hm0
  rw [Nat.add_zero] at hu0
  have HM0 := Lib.hid hm0
  clear hm0
  go_wp2
  go_loopw [16] (fun i wr => ∃ k : Nat, k ≤ css.length ∧ i = .int .i64 k ∧ Hid (∀ j, j < k → (css[j]?.getD []).length = R ∧ (Cell (firstC css) ∧ AllLen (firstC css).length (css[j]?.getD []))) ∧ Below w.heap.size w wr) (fun i _ => css.length - (intOf i).toNat)
  case atStart => exact ⟨0, Nat.zero_le _, rfl, Lib.hid (fun j hj => absurd hj (by omega)), hBw⟩
  case round =>
    clear hBw
    obtain ⟨k, hk, rfl, HA, hBr⟩ := hrel
    by_cases hlt : k < css.length
    · have hdec : decide ((k : Int) < (css.length : Int)) = true := by simp; omega
      obtain ⟨u, hu, hmu⟩ := HRow.out k hlt
      have hkl := HCL.out k hlt
      obtain ⟨Au, capu, rfl, _, _⟩ := id hmu
      have xk : wr.cell? ⟨b0, off0 + k, none⟩ = some (.slice Au (css[k]?.getD []).length capu) := (hBr.cell (p := ⟨b0, off0 + k, none⟩) (by exact Nat.lt_of_lt_of_le hb0 hB)).trans hu
      by_cases hlk : (css[k]?.getD []).length = R
      · have hlen0 : (css[0]?.getD []).length = R := by
          rcases Nat.eq_zero_or_pos k with h | h
          · subst h; exact hlk
          · exact (HA.out 0 h).1
        obtain ⟨b1, off1, hA0, hb1, hrow1⟩ := many_at HM0.out (by rw [hlen0]; omega)
        subst hA0
        obtain ⟨c0v, hc0, hbc0⟩ := (by
          obtain ⟨A9, cp9, hc9, hB9⟩ := hrow1 0 (by rw [hlen0]; omega)
          exact ⟨_, hc9, hB9⟩ : ∃ c0v, w.cell? ⟨b1, off1 + 0, none⟩ = some c0v ∧ Bytes B w c0v (firstC css))
        rw [Nat.add_zero] at hc0
        clear hrow1
        have x0 : wr.cell? ⟨b0, off0, none⟩ = some (.slice (some ⟨b1, off1, none⟩) (css[0]?.getD []).length cap0) := (hBr.cell (p := ⟨b0, off0, none⟩) (by exact Nat.lt_of_lt_of_le hb0 hB)).trans hu0
        have y0 : wr.cell? ⟨b1, off1, none⟩ = some c0v := (hBr.cell (p := ⟨b1, off1, none⟩) (by exact Nat.lt_of_lt_of_le hb1 hB)).trans hc0
        have HAA := fun b hb => areAlike_any c0v (.slice Au (css[k]?.getD []).length capu) (firstC css) (css[k]?.getD []) wr (hbc0.below (hBr.mono hB)) (hmu.below (hBr.mono hB)) hkl b hb
        rw [hlk] at xk HAA
        rw [hlen0] at x0
        have hRR : ((R : Int) == (R : Int)) = true := by simp
        have i1 : (0 : Int) < (R : Int) := by omega
        have i2 : (0 : Int) < (css.length : Int) := by omega
        by_cases hg : Cell (firstC css) ∧ AllLen (firstC css).length (css[k]?.getD [])
        · have HAA2 := Lib.hid (HAA true (by simp [hg]))
          have HA2 : Hid (∀ j, j < k + 1 → (css[j]?.getD []).length = R ∧ (Cell (firstC css) ∧ AllLen (firstC css).length (css[j]?.getD []))) := fun j hj => by
            rcases Nat.lt_or_ge j k with h1 | h1
            · exact HA.out j h1
            · obtain rfl : j = k := by omega
              exact ⟨hlk, hg⟩
          clear HAA HA hg hlk hlen0
          go_wp2_with (first
            | (go_at_call 99; refine HAA2.out.mono ?_; rintro e w4 ⟨rfl, hB4⟩)
            | (go_at_call 83; refine (need_yes _).mono ?_; rintro e w3 ⟨rfl, rfl⟩))
          go_roundw
          case rel => exact ⟨k + 1, by omega, by go_num, HA2, below_in hBr hB4⟩
          case measure => simp [intOf]; omega
        · have HAA2 := Lib.hid (HAA false (by simp; exact fun h1 h2 => hg ⟨h1, h2⟩))
          clear HAA HA hg hlk hlen0
          go_wp2_with (first
            | (go_at_call 99; refine HAA2.out.mono ?_; rintro e w4 ⟨rfl, hB4⟩)
            | (go_at_call 83; refine (need_no _).mono ?_; rintro e w3 ⟨rfl, rfl⟩))
          exact ⟨rfl, rfl, below_in hBr hB4⟩
      · have hRR : (((css[k]?.getD []).length : Int) == (R : Int)) = false := by simp; omega
        generalize (css[k]?.getD []).length = q at xk hRR
        clear hlk
        go_wp2_with (go_at_call 83; refine (need_no _).mono ?_; rintro e w3 ⟨rfl, rfl⟩)
        exact ⟨rfl, rfl, hBr⟩
    · obtain rfl : k = css.length := by omega
      exact absurd ⟨hl0, HA.out⟩ HNO.out
end Go.Proofs.YtggdlklkjnbbjaaGreatDoor.E

namespace Go.Proofs.YtggdlklkjnbbjaaGreatDoor.E
open Go.RowKit Go.Shelf Go.Proofs.YtggdlklkjnbbjaaGreatDoor.C
set_option linter.unusedSimpArgs false
set_option linter.unusedVariables false

theorem cell_set_int {W : World} {g : Nat} {t : TypeId} {x : Int} (h : Blk W g t #[.int .i64 x]) {q : Addr} (hq : q.spot = none) {y : Value} (hy : W.cell? q = some y) (hn : ∀ n, y ≠ .int .i64 n) (u : Value) : (W.setCell ⟨g, 0, none⟩ u).cell? q = some y := by
  have hne : q.block ≠ g := fun e => by
    obtain ⟨b, off, s⟩ := q
    simp only at e hq
    subst e hq
    rw [h.cell off] at hy
    cases off with
    | zero => simp at hy; exact hn _ hy.symm
    | succ k => simp at hy
  exact (World.cell?_of_block (Below.heap_setCell W ⟨g, 0, none⟩ u q.block hne)).trans hy
theorem Bytes.set_int {W : World} {g : Nat} {t : TypeId} {x : Int} {B : Nat} {v : Value} {l : List UInt8} (h : Bytes B W v l) (hb : Blk W g t #[.int .i64 x]) (u : Value) : Bytes B (W.setCell ⟨g, 0, none⟩ u) v l := by
  obtain ⟨A, cap, e, hc, hA⟩ := h
  refine ⟨A, cap, e, hc, fun hp => ?_⟩
  obtain ⟨b, off, e2, hlt, hcell⟩ := hA hp
  exact ⟨b, off, e2, hlt, fun j hj => cell_set_int hb rfl (hcell j hj) (fun n e => by cases e) u⟩
theorem Many.set_int {W : World} {g : Nat} {t : TypeId} {x : Int} {B : Nat} {v : Value} {ls : List (List UInt8)} (h : Many B W v ls) (hb : Blk W g t #[.int .i64 x]) (u : Value) : Many B (W.setCell ⟨g, 0, none⟩ u) v ls := by
  obtain ⟨A, cap, e, hc, hA⟩ := h
  refine ⟨A, cap, e, hc, fun hp => ?_⟩
  obtain ⟨b, off, e2, hlt, hcell⟩ := hA hp
  refine ⟨b, off, e2, hlt, fun j hj => ?_⟩
  obtain ⟨y, hy, hby⟩ := hcell j hj
  obtain ⟨A3, c3, rfl, _⟩ := id hby
  exact ⟨_, cell_set_int hb rfl hy (fun n e => by cases e) u, Bytes.set_int hby hb u⟩
theorem Cols.set_int {W : World} {g : Nat} {t : TypeId} {x : Int} {B : Nat} {v : Value} {css : List (List (List UInt8))} (h : Cols B W v css) (hb : Blk W g t #[.int .i64 x]) (u : Value) : Cols B (W.setCell ⟨g, 0, none⟩ u) v css := by
  obtain ⟨A, cap, e, hc, hA⟩ := h
  refine ⟨A, cap, e, hc, fun hp => ?_⟩
  obtain ⟨b, off, e2, hlt, hcell⟩ := hA hp
  refine ⟨b, off, e2, hlt, fun j hj => ?_⟩
  obtain ⟨y, hy, hby⟩ := hcell j hj
  obtain ⟨A3, c3, rfl, _⟩ := id hby
  exact ⟨_, cell_set_int hb rfl hy (fun n e => by cases e) u, Many.set_int hby hb u⟩

/-- What is answered when nothing gave up. -/
theorem idle_B (p : Addr) (w : World) :
    CallsD Tryz.prog 82 #[.pointer (some p)] .returning w fun e u' w' => e = .returned (.tuple #[]) ∧ u' = .returning ∧ w' = w := by
  have hta := assert_errno
  refine callsD_of_wpS Tryz.func82 rfl fun c₀ cs hu => ?_
  simp only [Tryz.ntmps82, List.size_toArray, List.length_cons, List.length_nil, Nat.reduceAdd, Nat.reduceSub, Array.replicate_succ, Array.replicate_zero, List.push_toArray, List.append_toArray, List.nil_append, List.cons_append]
  apply wpS_seq
  apply wpS_region
  simp [wpOpsS, go_sem, recoverD, hu, Exit.thenS]
  all_goals (refine wpS_of_wp ?_; go_wp2; cases c₀; simp_all [bodyPostS, results, Tryz.results82])
/-- What is answered when it gave up. -/
theorem caught_B (p : Addr) (x : Int) (w : World) (hc : w.cell? p = some (.int .i64 x)) (hz : w.frozen? p = false) :
    CallsD Tryz.prog 82 #[.pointer (some p)] (.panicking gaveUp) w fun e u' w' =>
      e = .returned (.tuple #[]) ∧ u' = .panicking [{ v := .iface 26 (.int .i64 2), recovered := true }] ∧ w' = w.setCell p (.int .i64 2) := by
  have hta := assert_errno
  refine callsD_of_wpS Tryz.func82 rfl fun c₀ cs hu => ?_
  simp only [Tryz.ntmps82, List.size_toArray, List.length_cons, List.length_nil, Nat.reduceAdd, Nat.reduceSub, Array.replicate_succ, Array.replicate_zero, List.push_toArray, List.append_toArray, List.nil_append, List.cons_append]
  apply wpS_seq
  apply wpS_region
  simp [wpOpsS, go_sem, recoverD, hu, Exit.thenS, gaveUp]
  all_goals (refine wpS_of_wp ?_; go_wp2; simp [bodyPostS, results, Tryz.results82])
set_option maxHeartbeats 400000 in
theorem ans_B_yes (f : Nat) (caps : Array Value) (w : World) (Post : Value → World → Prop) (hent : ∀ W, (callFunc f caps).run Tryz.prog W = .ok (.enter f caps) W)
    (h : ∀ W, Below w.heap.size w W → Blk W w.heap.size 26 #[.int .i64 0] → Calls Tryz.prog f caps W fun e w' => ∃ v, e = .returned v ∧ Post v w' ∧ Below W.heap.size W w') :
    Calls Tryz.prog 39 #[.func (.func f) #[] caps] w fun e w' => ∃ v W, e = .returned (.tuple #[v, .int .i64 0]) ∧ Post v W ∧ Blk W w.heap.size 26 #[.int .i64 0] ∧ w' = W.setCell ⟨w.heap.size, 0, none⟩ (.int .i64 0) ∧ Below w.heap.size w w' := by
  have hmf : ∀ (fn : Fn) (first cap : Array Value) (w : World), (Instr.makeFunc fn first cap).run Tryz.prog w = .ok (.func fn first cap) w := fun _ _ _ _ => rfl
  have h1 := h (w.alloc (.cells #[.int .i64 0] 26)) ((Below.refl _ w).alloc (Nat.le_refl _) _) (Blk.new w _ _)
  clear h
  go_enter_defers Tryz.func39, Tryz.ntmps39
  go_wp2
  refine h1.mono ?_
  rintro e w1 ⟨v, rfl, hv, hB1⟩
  have b1 : Blk w1 w.heap.size 26 #[.int .i64 0] := (Blk.new w _ _).below hB1 (by simp)
  have c1 := b1.cell 0
  have f1 := b1.frozen 0
  simp only [List.getElem?_toArray, List.getElem?_cons_zero] at c1
  go_wp2
  refine leaves_cons (f := 82) (args := #[.pointer (some ⟨w.heap.size, 0, none⟩)]) (by simp) (by simp [go_sem]) ?_
  refine (idle_B ⟨w.heap.size, 0, none⟩ _).mono ?_
  rintro e u' w'' ⟨rfl, rfl, rfl⟩
  have c2 : (w1.setCell ⟨w.heap.size, 0, none⟩ (.int .i64 0)).cell? ⟨w.heap.size, 0, none⟩ = some (.int .i64 0) := World.cell?_setCell_same' _ _ _ (by rw [c1]; rfl)
  simp [Leaves, settle, results, Tryz.results39, go_sem, c2]
  exact ⟨w1, hv, b1, rfl, (((Below.refl _ w).alloc (Nat.le_refl _) _).trans (hB1.mono (by simp))).setCell (Nat.le_refl _) _⟩
set_option maxHeartbeats 400000 in
theorem ans_B_no (f : Nat) (caps : Array Value) (w : World) (hent : ∀ W, (callFunc f caps).run Tryz.prog W = .ok (.enter f caps) W)
    (h : ∀ W, Below w.heap.size w W → w.heap.size < W.heap.size → Calls Tryz.prog f caps W fun e w' => e = .panicked gaveUp ∧ Below W.heap.size W w') :
    Calls Tryz.prog 39 #[.func (.func f) #[] caps] w fun e w' => e = .returned (.tuple #[.slice none 0 0, .int .i64 2]) ∧ Below w.heap.size w w' := by
  have hmf : ∀ (fn : Fn) (first cap : Array Value) (w : World), (Instr.makeFunc fn first cap).run Tryz.prog w = .ok (.func fn first cap) w := fun _ _ _ _ => rfl
  have h1 := h (w.alloc (.cells #[.int .i64 0] 26)) ((Below.refl _ w).alloc (Nat.le_refl _) _) (by simp)
  clear h
  go_enter_defers Tryz.func39, Tryz.ntmps39
  go_wp2
  refine h1.mono ?_
  rintro e w1 ⟨rfl, hB1⟩
  have b1 : Blk w1 w.heap.size 26 #[.int .i64 0] := (Blk.new w _ _).below hB1 (by simp)
  have c1 := b1.cell 0
  have f1 := b1.frozen 0
  simp only [List.getElem?_toArray, List.getElem?_cons_zero] at c1
  refine leaves_cons (f := 82) (args := #[.pointer (some ⟨w.heap.size, 0, none⟩)]) (by simp) (by simp [go_sem]) ?_
  refine (caught_B ⟨w.heap.size, 0, none⟩ 0 _ c1 f1).mono ?_
  rintro e u' w'' ⟨rfl, rfl, rfl⟩
  have c2 : (w1.setCell ⟨w.heap.size, 0, none⟩ (.int .i64 2)).cell? ⟨w.heap.size, 0, none⟩ = some (.int .i64 2) := World.cell?_setCell_same' _ _ _ (by rw [c1]; rfl)
  simp [Leaves, settle, results, Tryz.results39, go_sem, c2]
  exact (((Below.refl _ w).alloc (Nat.le_refl _) _).trans (hB1.mono (by simp))).setCell (Nat.le_refl _) _

/-- What is answered when nothing gave up. -/
theorem idle_S (p : Addr) (w : World) :
    CallsD Tryz.prog 91 #[.pointer (some p)] .returning w fun e u' w' => e = .returned (.tuple #[]) ∧ u' = .returning ∧ w' = w := by
  have hta := assert_errno
  refine callsD_of_wpS Tryz.func91 rfl fun c₀ cs hu => ?_
  simp only [Tryz.ntmps91, List.size_toArray, List.length_cons, List.length_nil, Nat.reduceAdd, Nat.reduceSub, Array.replicate_succ, Array.replicate_zero, List.push_toArray, List.append_toArray, List.nil_append, List.cons_append]
  apply wpS_seq
  apply wpS_region
  simp [wpOpsS, go_sem, recoverD, hu, Exit.thenS]
  all_goals (refine wpS_of_wp ?_; go_wp2; cases c₀; simp_all [bodyPostS, results, Tryz.results91])
/-- What is answered when it gave up. -/
theorem caught_S (p : Addr) (x : Int) (w : World) (hc : w.cell? p = some (.int .i64 x)) (hz : w.frozen? p = false) :
    CallsD Tryz.prog 91 #[.pointer (some p)] (.panicking gaveUp) w fun e u' w' =>
      e = .returned (.tuple #[]) ∧ u' = .panicking [{ v := .iface 26 (.int .i64 2), recovered := true }] ∧ w' = w.setCell p (.int .i64 2) := by
  have hta := assert_errno
  refine callsD_of_wpS Tryz.func91 rfl fun c₀ cs hu => ?_
  simp only [Tryz.ntmps91, List.size_toArray, List.length_cons, List.length_nil, Nat.reduceAdd, Nat.reduceSub, Array.replicate_succ, Array.replicate_zero, List.push_toArray, List.append_toArray, List.nil_append, List.cons_append]
  apply wpS_seq
  apply wpS_region
  simp [wpOpsS, go_sem, recoverD, hu, Exit.thenS, gaveUp]
  all_goals (refine wpS_of_wp ?_; go_wp2; simp [bodyPostS, results, Tryz.results91])
set_option maxHeartbeats 400000 in
theorem ans_S_yes (f : Nat) (caps : Array Value) (w : World) (Post : Value → World → Prop) (hent : ∀ W, (callFunc f caps).run Tryz.prog W = .ok (.enter f caps) W)
    (h : ∀ W, Below w.heap.size w W → Blk W w.heap.size 26 #[.int .i64 0] → Calls Tryz.prog f caps W fun e w' => ∃ v, e = .returned v ∧ Post v w' ∧ Below W.heap.size W w') :
    Calls Tryz.prog 44 #[.func (.func f) #[] caps] w fun e w' => ∃ v W, e = .returned (.tuple #[v, .int .i64 0]) ∧ Post v W ∧ Blk W w.heap.size 26 #[.int .i64 0] ∧ w' = W.setCell ⟨w.heap.size, 0, none⟩ (.int .i64 0) ∧ Below w.heap.size w w' := by
  have hmf : ∀ (fn : Fn) (first cap : Array Value) (w : World), (Instr.makeFunc fn first cap).run Tryz.prog w = .ok (.func fn first cap) w := fun _ _ _ _ => rfl
  have h1 := h (w.alloc (.cells #[.int .i64 0] 26)) ((Below.refl _ w).alloc (Nat.le_refl _) _) (Blk.new w _ _)
  clear h
  go_enter_defers Tryz.func44, Tryz.ntmps44
  go_wp2
  refine h1.mono ?_
  rintro e w1 ⟨v, rfl, hv, hB1⟩
  have b1 : Blk w1 w.heap.size 26 #[.int .i64 0] := (Blk.new w _ _).below hB1 (by simp)
  have c1 := b1.cell 0
  have f1 := b1.frozen 0
  simp only [List.getElem?_toArray, List.getElem?_cons_zero] at c1
  go_wp2
  refine leaves_cons (f := 91) (args := #[.pointer (some ⟨w.heap.size, 0, none⟩)]) (by simp) (by simp [go_sem]) ?_
  refine (idle_S ⟨w.heap.size, 0, none⟩ _).mono ?_
  rintro e u' w'' ⟨rfl, rfl, rfl⟩
  have c2 : (w1.setCell ⟨w.heap.size, 0, none⟩ (.int .i64 0)).cell? ⟨w.heap.size, 0, none⟩ = some (.int .i64 0) := World.cell?_setCell_same' _ _ _ (by rw [c1]; rfl)
  simp [Leaves, settle, results, Tryz.results44, go_sem, c2]
  exact ⟨w1, hv, b1, rfl, (((Below.refl _ w).alloc (Nat.le_refl _) _).trans (hB1.mono (by simp))).setCell (Nat.le_refl _) _⟩
set_option maxHeartbeats 400000 in
theorem ans_S_no (f : Nat) (caps : Array Value) (w : World) (hent : ∀ W, (callFunc f caps).run Tryz.prog W = .ok (.enter f caps) W)
    (h : ∀ W, Below w.heap.size w W → w.heap.size < W.heap.size → Calls Tryz.prog f caps W fun e w' => e = .panicked gaveUp ∧ Below W.heap.size W w') :
    Calls Tryz.prog 44 #[.func (.func f) #[] caps] w fun e w' => e = .returned (.tuple #[.slice none 0 0, .int .i64 2]) ∧ Below w.heap.size w w' := by
  have hmf : ∀ (fn : Fn) (first cap : Array Value) (w : World), (Instr.makeFunc fn first cap).run Tryz.prog w = .ok (.func fn first cap) w := fun _ _ _ _ => rfl
  have h1 := h (w.alloc (.cells #[.int .i64 0] 26)) ((Below.refl _ w).alloc (Nat.le_refl _) _) (by simp)
  clear h
  go_enter_defers Tryz.func44, Tryz.ntmps44
  go_wp2
  refine h1.mono ?_
  rintro e w1 ⟨rfl, hB1⟩
  have b1 : Blk w1 w.heap.size 26 #[.int .i64 0] := (Blk.new w _ _).below hB1 (by simp)
  have c1 := b1.cell 0
  have f1 := b1.frozen 0
  simp only [List.getElem?_toArray, List.getElem?_cons_zero] at c1
  refine leaves_cons (f := 91) (args := #[.pointer (some ⟨w.heap.size, 0, none⟩)]) (by simp) (by simp [go_sem]) ?_
  refine (caught_S ⟨w.heap.size, 0, none⟩ 0 _ c1 f1).mono ?_
  rintro e u' w'' ⟨rfl, rfl, rfl⟩
  have c2 : (w1.setCell ⟨w.heap.size, 0, none⟩ (.int .i64 2)).cell? ⟨w.heap.size, 0, none⟩ = some (.int .i64 2) := World.cell?_setCell_same' _ _ _ (by rw [c1]; rfl)
  simp [Leaves, settle, results, Tryz.results44, go_sem, c2]
  exact (((Below.refl _ w).alloc (Nat.le_refl _) _).trans (hB1.mono (by simp))).setCell (Nat.le_refl _) _
end Go.Proofs.YtggdlklkjnbbjaaGreatDoor.E

namespace Go.Proofs.YtggdlklkjnbbjaaGreatDoor.E
open Go.RowKit Go.Shelf Go.Proofs.YtggdlklkjnbbjaaGreatDoor.C
set_option linter.unusedSimpArgs false
set_option linter.unusedVariables false


/-- What is answered when nothing gave up. -/
theorem idle_T (p : Addr) (w : World) :
    CallsD Tryz.prog 105 #[.pointer (some p)] .returning w fun e u' w' => e = .returned (.tuple #[]) ∧ u' = .returning ∧ w' = w := by
  have hta := assert_errno
  refine callsD_of_wpS Tryz.func105 rfl fun c₀ cs hu => ?_
  simp only [Tryz.ntmps105, List.size_toArray, List.length_cons, List.length_nil, Nat.reduceAdd, Nat.reduceSub, Array.replicate_succ, Array.replicate_zero, List.push_toArray, List.append_toArray, List.nil_append, List.cons_append]
  apply wpS_seq
  apply wpS_region
  simp [wpOpsS, go_sem, recoverD, hu, Exit.thenS]
  all_goals (refine wpS_of_wp ?_; go_wp2; cases c₀; simp_all [bodyPostS, results, Tryz.results105])
/-- What is answered when it gave up. -/
theorem caught_T (p : Addr) (x : Int) (w : World) (hc : w.cell? p = some (.int .i64 x)) (hz : w.frozen? p = false) :
    CallsD Tryz.prog 105 #[.pointer (some p)] (.panicking gaveUp) w fun e u' w' =>
      e = .returned (.tuple #[]) ∧ u' = .panicking [{ v := .iface 26 (.int .i64 2), recovered := true }] ∧ w' = w.setCell p (.int .i64 2) := by
  have hta := assert_errno
  refine callsD_of_wpS Tryz.func105 rfl fun c₀ cs hu => ?_
  simp only [Tryz.ntmps105, List.size_toArray, List.length_cons, List.length_nil, Nat.reduceAdd, Nat.reduceSub, Array.replicate_succ, Array.replicate_zero, List.push_toArray, List.append_toArray, List.nil_append, List.cons_append]
  apply wpS_seq
  apply wpS_region
  simp [wpOpsS, go_sem, recoverD, hu, Exit.thenS, gaveUp]
  all_goals (refine wpS_of_wp ?_; go_wp2; simp [bodyPostS, results, Tryz.results105])
set_option maxHeartbeats 400000 in
theorem ans_T_yes (f : Nat) (caps : Array Value) (w : World) (Post : Value → World → Prop) (hent : ∀ W, (callFunc f caps).run Tryz.prog W = .ok (.enter f caps) W)
    (h : ∀ W, Below w.heap.size w W → Blk W w.heap.size 26 #[.int .i64 0] → Calls Tryz.prog f caps W fun e w' => ∃ v, e = .returned v ∧ Post v w' ∧ Below W.heap.size W w') :
    Calls Tryz.prog 60 #[.func (.func f) #[] caps] w fun e w' => ∃ v W, e = .returned (.tuple #[v, .int .i64 0]) ∧ Post v W ∧ Blk W w.heap.size 26 #[.int .i64 0] ∧ w' = W.setCell ⟨w.heap.size, 0, none⟩ (.int .i64 0) ∧ Below w.heap.size w w' := by
  have hmf : ∀ (fn : Fn) (first cap : Array Value) (w : World), (Instr.makeFunc fn first cap).run Tryz.prog w = .ok (.func fn first cap) w := fun _ _ _ _ => rfl
  have h1 := h (w.alloc (.cells #[.int .i64 0] 26)) ((Below.refl _ w).alloc (Nat.le_refl _) _) (Blk.new w _ _)
  clear h
  go_enter_defers Tryz.func60, Tryz.ntmps60
  go_wp2
  refine h1.mono ?_
  rintro e w1 ⟨v, rfl, hv, hB1⟩
  have b1 : Blk w1 w.heap.size 26 #[.int .i64 0] := (Blk.new w _ _).below hB1 (by simp)
  have c1 := b1.cell 0
  have f1 := b1.frozen 0
  simp only [List.getElem?_toArray, List.getElem?_cons_zero] at c1
  go_wp2
  refine leaves_cons (f := 105) (args := #[.pointer (some ⟨w.heap.size, 0, none⟩)]) (by simp) (by simp [go_sem]) ?_
  refine (idle_T ⟨w.heap.size, 0, none⟩ _).mono ?_
  rintro e u' w'' ⟨rfl, rfl, rfl⟩
  have c2 : (w1.setCell ⟨w.heap.size, 0, none⟩ (.int .i64 0)).cell? ⟨w.heap.size, 0, none⟩ = some (.int .i64 0) := World.cell?_setCell_same' _ _ _ (by rw [c1]; rfl)
  simp [Leaves, settle, results, Tryz.results60, go_sem, c2]
  exact ⟨w1, hv, b1, rfl, (((Below.refl _ w).alloc (Nat.le_refl _) _).trans (hB1.mono (by simp))).setCell (Nat.le_refl _) _⟩
set_option maxHeartbeats 400000 in
theorem ans_T_no (f : Nat) (caps : Array Value) (w : World) (hent : ∀ W, (callFunc f caps).run Tryz.prog W = .ok (.enter f caps) W)
    (h : ∀ W, Below w.heap.size w W → w.heap.size < W.heap.size → Calls Tryz.prog f caps W fun e w' => e = .panicked gaveUp ∧ Below W.heap.size W w') :
    Calls Tryz.prog 60 #[.func (.func f) #[] caps] w fun e w' => e = .returned (.tuple #[.bool false, .int .i64 2]) ∧ Below w.heap.size w w' := by
  have hmf : ∀ (fn : Fn) (first cap : Array Value) (w : World), (Instr.makeFunc fn first cap).run Tryz.prog w = .ok (.func fn first cap) w := fun _ _ _ _ => rfl
  have h1 := h (w.alloc (.cells #[.int .i64 0] 26)) ((Below.refl _ w).alloc (Nat.le_refl _) _) (by simp)
  clear h
  go_enter_defers Tryz.func60, Tryz.ntmps60
  go_wp2
  refine h1.mono ?_
  rintro e w1 ⟨rfl, hB1⟩
  have b1 : Blk w1 w.heap.size 26 #[.int .i64 0] := (Blk.new w _ _).below hB1 (by simp)
  have c1 := b1.cell 0
  have f1 := b1.frozen 0
  simp only [List.getElem?_toArray, List.getElem?_cons_zero] at c1
  refine leaves_cons (f := 105) (args := #[.pointer (some ⟨w.heap.size, 0, none⟩)]) (by simp) (by simp [go_sem]) ?_
  refine (caught_T ⟨w.heap.size, 0, none⟩ 0 _ c1 f1).mono ?_
  rintro e u' w'' ⟨rfl, rfl, rfl⟩
  have c2 : (w1.setCell ⟨w.heap.size, 0, none⟩ (.int .i64 2)).cell? ⟨w.heap.size, 0, none⟩ = some (.int .i64 2) := World.cell?_setCell_same' _ _ _ (by rw [c1]; rfl)
  simp [Leaves, settle, results, Tryz.results60, go_sem, c2]
  exact (((Below.refl _ w).alloc (Nat.le_refl _) _).trans (hB1.mono (by simp))).setCell (Nat.le_refl _) _
end Go.Proofs.YtggdlklkjnbbjaaGreatDoor.E

