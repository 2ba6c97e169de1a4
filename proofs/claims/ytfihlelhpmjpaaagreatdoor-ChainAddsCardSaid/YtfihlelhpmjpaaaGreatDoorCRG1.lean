/- The columns of EVENODD: giving up, what is answered; a prime of the code. The columns of EVENODD: columns that came in; what belongs together. The columns of EVENODD: together. The columns of EVENODD: -/
import Derived.OrdersIn
import Derived.OrdersHeld
import Derived.Test.YtfihlelhpmjpaaaGreatDoorCRCA
namespace Go.Proofs.YtfihlelhpmjpaaaGreatDoor.E
open Go.RowKit Go.Shelf Go.Proofs.YtfihlelhpmjpaaaGreatDoor.C
set_option linter.unusedSimpArgs false
set_option linter.unusedVariables false

set_option maxHeartbeats 400000 in
theorem need_yes (w : World) : Calls Tryz.prog 204 #[.bool true] w fun e w' => e = .returned (.tuple #[]) ∧ w = w' := by
  go_enter Tryz.func204, Tryz.ntmps204
  go_wp2
  go_end0
  exact ⟨rfl, rfl⟩
set_option maxHeartbeats 400000 in
theorem need_no (w : World) : Calls Tryz.prog 204 #[.bool false] w fun e w' => e = .panicked gaveUp ∧ w = w' := by
  go_enter Tryz.func204, Tryz.ntmps204
  go_wp2
  exact ⟨rfl, rfl, rfl⟩
/-- What is answered when nothing gave up. -/
theorem idleB (p : Addr) (w : World) :
    CallsD Tryz.prog 287 #[.pointer (some p)] .returning w fun e u' w' => e = .returned (.tuple #[]) ∧ u' = .returning ∧ w' = w := by
  have hta := assert_errno
  refine callsD_of_wpS Tryz.func287 rfl fun c₀ cs hu => ?_
  simp only [Tryz.ntmps287, List.size_toArray, List.length_cons, List.length_nil, Nat.reduceAdd, Nat.reduceSub, Array.replicate_succ, Array.replicate_zero, List.push_toArray, List.append_toArray, List.nil_append, List.cons_append]
  apply wpS_seq
  apply wpS_region
  simp [wpOpsS, go_sem, recoverD, hu, Exit.thenS]
  all_goals (refine wpS_of_wp ?_; go_wp2; cases c₀; simp_all [bodyPostS, results, Tryz.results287])

set_option maxHeartbeats 400000 in
theorem answeredB_yes (f : Nat) (caps : Array Value) (w : World) (Post : Value → World → Prop) (hent : ∀ W, (callFunc f caps).run Tryz.prog W = .ok (.enter f caps) W)
    (h : ∀ W, Below w.heap.size w W → w.heap.size < W.heap.size → Calls Tryz.prog f caps W fun e w' => ∃ v, e = .returned v ∧ Post v w' ∧ Below W.heap.size W w')
    (hP : ∀ v W, Post v W → Post v (W.setCell ⟨w.heap.size, 0, none⟩ (.int .i64 0))) :
    Calls Tryz.prog 278 #[.func (.func f) #[] caps] w fun e w' => ∃ v, e = .returned (.tuple #[v, .int .i64 0]) ∧ Post v w' ∧ Below w.heap.size w w' := by
  have hmf : ∀ (fn : Fn) (first cap : Array Value) (w : World), (Instr.makeFunc fn first cap).run Tryz.prog w = .ok (.func fn first cap) w := fun _ _ _ _ => rfl
  have h1 := h (w.alloc (.cells #[.int .i64 0] 25)) ((Below.refl _ w).alloc (Nat.le_refl _) _) (by simp)
  go_enter_defers Tryz.func278, Tryz.ntmps278
  go_wp2
  refine h1.mono ?_
  rintro e w1 ⟨v, rfl, hv, hB1⟩
  have b1 : Blk w1 w.heap.size 25 #[.int .i64 0] := (Blk.new w _ _).below hB1 (by simp)
  have c1 := b1.cell 0
  have f1 := b1.frozen 0
  simp only [List.getElem?_toArray, List.getElem?_cons_zero] at c1
  go_wp2
  refine leaves_cons (f := 287) (args := #[.pointer (some ⟨w.heap.size, 0, none⟩)]) (by simp) (by simp [go_sem]) ?_
  refine (idleB ⟨w.heap.size, 0, none⟩ _).mono ?_
  rintro e u' w'' ⟨rfl, rfl, rfl⟩
  have c2 : (w1.setCell ⟨w.heap.size, 0, none⟩ (.int .i64 0)).cell? ⟨w.heap.size, 0, none⟩ = some (.int .i64 0) := World.cell?_setCell_same' _ _ _ (by rw [c1]; rfl)
  simp [Leaves, settle, results, Tryz.results278, go_sem, c2]
  exact ⟨hP _ _ hv, (((Below.refl _ w).alloc (Nat.le_refl _) _).trans (hB1.mono (by simp))).setCell (Nat.le_refl _) _⟩

set_option maxHeartbeats 400000 in
theorem sureI (n : Int) (w : World) : Calls Tryz.prog 238 #[.int .i64 n, .int .i64 0] w fun e w' => e = .returned (.int .i64 n) ∧ w = w' := by
  go_enter Tryz.func238, Tryz.ntmps238
  go_wp2
  go_ret
  exact ⟨rfl, rfl⟩
set_option maxHeartbeats 400000 in
theorem sureB (v : Value) (w : World) : Calls Tryz.prog 271 #[v, .int .i64 0] w fun e w' => e = .returned v ∧ w = w' := by
  go_enter Tryz.func271, Tryz.ntmps271
  go_wp2
  go_ret
  exact ⟨rfl, rfl⟩
set_option maxHeartbeats 400000 in
theorem code_any (p : Int) (w : World) : Calls Tryz.prog 205 #[.int .i64 p] w fun e w' => e = .returned (.agg #[.int .i64 1, .int .i64 p]) ∧ Below w.heap.size w w' := by
  go_enter Tryz.func205, Tryz.ntmps205
  go_wp2
  have b := Blk.new w 49 #[.int .i64 1, .int .i64 p]
  have c0 := b.cell 0
  have c1 := b.cell 1
  simp only [List.getElem?_toArray, List.getElem?_cons_zero, List.getElem?_cons_succ] at c0 c1
  exact bodyPost_ret (v := .agg #[.int .i64 1, .int .i64 p]) (by simp [results, Tryz.results205, go_sem, c0, c1]) rfl ⟨rfl, below_one w _⟩
set_option maxHeartbeats 400000 in
theorem last_any (p : Int) (hp : 0 ≤ p ∧ p ≤ 100) (w : World) : Calls Tryz.prog 273 #[.int .i64 p] w fun e w' => e = .returned (.int .i64 (p - 1)) ∧ Below w.heap.size w w' := by
  have hw : IntKind.i64.wrap (p - 1) = p - 1 := IntWalk.i64_in _ (by omega)
  go_enter Tryz.func273, Tryz.ntmps273
  go_wp2
  go_ret
  exact ⟨rfl, Below.refl _ _⟩
set_option maxHeartbeats 400000 in
theorem primeOf_yes (p : Int) (hR : RightC 1 p) (w : World) (hL : Laid w) : Calls Tryz.prog 154 #[.int .i64 p] w fun e w' => e = .returned (.int .i64 p) ∧ Below w.heap.size w w' := by
  have HC := Lib.hid (fun W hL => (shapeCheck_any 1 p W hL).mono fun e w' h => And.intro (h.1 hR) h.2.2)
  clear hR
  go_enter Tryz.func154, Tryz.ntmps154
  go_wp2_with (first
    | (go_at_call 205; refine (code_any p _).mono ?_; rintro e w1 ⟨rfl, hB1⟩; replace hL := hL.next hB1)
    | (go_at_call 115; refine (HC.out _ hL).mono ?_; rintro e w2 ⟨rfl, hB2⟩)
    | (go_at_call 204; refine (need_yes _).mono ?_; rintro e w3 ⟨rfl, rfl⟩))
  go_ret
  exact ⟨rfl, below_in hB1 hB2⟩
set_option maxHeartbeats 400000 in
theorem rows_any (p : Int) (hR : RightC 1 p) (w : World) (hL : Laid w) : Calls Tryz.prog 206 #[.int .i64 p] w fun e w' => e = .returned (.int .i64 (p - 1)) ∧ Below w.heap.size w w' := by
  have HC := Lib.hid (fun W hL => (shapeRows_any 1 p W hL).mono fun _ _ h => (⟨h.1 hR, h.2.2⟩ : _ ∧ _))
  clear hR
  go_enter Tryz.func206, Tryz.ntmps206
  go_wp2_with (first
    | (go_at_call 205; refine (code_any p _).mono ?_; rintro e w1 ⟨rfl, hB1⟩; replace hL := hL.next hB1)
    | (go_at_call 259; refine (HC.out _ hL).mono ?_; rintro e w2 ⟨rfl, hB2⟩)
    | (go_at_call 238; refine (sureI _ _).mono ?_; rintro e w3 ⟨rfl, rfl⟩))
  go_ret
  exact ⟨rfl, below_in hB1 hB2⟩
set_option maxHeartbeats 400000 in
theorem data_any (p : Int) (hR : RightC 1 p) (w : World) (hL : Laid w) : Calls Tryz.prog 190 #[.int .i64 p] w fun e w' => e = .returned (.int .i64 p) ∧ Below w.heap.size w w' := by
  have HC := Lib.hid (fun W hL => (shapeData_any 1 p W hL).mono fun _ _ h => (⟨h.1 hR, h.2.2⟩ : _ ∧ _))
  rw [show shortN 1 = 0 from rfl, Int.sub_zero] at HC
  clear hR
  go_enter Tryz.func190, Tryz.ntmps190
  go_wp2_with (first
    | (go_at_call 205; refine (code_any p _).mono ?_; rintro e w1 ⟨rfl, hB1⟩; replace hL := hL.next hB1)
    | (go_at_call 239; refine (HC.out _ hL).mono ?_; rintro e w2 ⟨rfl, hB2⟩)
    | (go_at_call 238; refine (sureI _ _).mono ?_; rintro e w3 ⟨rfl, rfl⟩))
  go_ret
  exact ⟨rfl, below_in hB1 hB2⟩
end Go.Proofs.YtfihlelhpmjpaaaGreatDoor.E

namespace Go.Proofs.YtfihlelhpmjpaaaGreatDoor.E
open Go.RowKit Go.Shelf Go.Proofs.YtfihlelhpmjpaaaGreatDoor.C
set_option linter.unusedSimpArgs false
set_option linter.unusedVariables false

/-- The slice value v reads as columns, below block B. -/
def Cols (B : Nat) (W : World) (v : Value) (css : List (List (List UInt8))) : Prop :=
  ∃ A cap, v = .slice A css.length cap ∧ css.length ≤ cap ∧ (0 < css.length → ∃ b off, A = some ⟨b, off, none⟩ ∧ b < B ∧
    ∀ j, j < css.length → ∃ u, W.cell? ⟨b, off + j, none⟩ = some u ∧ Many B W u (css[j]?.getD []))
section
variable {W W' : World} {B B' : Nat} {v : Value} {css : List (List (List UInt8))}
theorem Cols.keep (h : Cols B W v css) (hk : ∀ p : Addr, p.block < B → W'.cell? p = W.cell? p) : Cols B W' v css := by
  obtain ⟨A, cap, e, hc, hA⟩ := h
  refine ⟨A, cap, e, hc, fun hp => ?_⟩
  obtain ⟨b, off, e1, hb, hr⟩ := hA hp
  refine ⟨b, off, e1, hb, fun j hj => ?_⟩
  obtain ⟨u, hu, hm⟩ := hr j hj
  exact ⟨u, (hk ⟨b, off + j, none⟩ hb).trans hu, hm.keep hk⟩
theorem Cols.below (h : Cols B W v css) (hb : Below B W W') : Cols B W' v css := h.keep fun _ hp => hb.cell hp
theorem Cols.at_ (h : Cols B W v css) (h0 : 0 < css.length) : ∃ b off cap, v = .slice (some ⟨b, off, none⟩) css.length cap ∧ css.length ≤ cap ∧ b < B ∧ ∀ j, j < css.length → ∃ u, W.cell? ⟨b, off + j, none⟩ = some u ∧ Many B W u (css[j]?.getD []) := by
  obtain ⟨A, cap, rfl, hc, hA⟩ := h
  obtain ⟨b, off, rfl, hb, hr⟩ := hA h0
  exact ⟨b, off, cap, rfl, hc, hb, hr⟩
end

set_option maxRecDepth 100000 in
set_option maxHeartbeats 1000000 in
theorem areAlike_any {B B' : Nat} (v1 v2 : Value) (one : List UInt8) (ls : List (List UInt8)) (w : World) (h1 : Bytes B w v1 one) (hM : Many B' w v2 ls) (hls : ls.length ≤ 1000) (b : Bool) (hb : b = true ↔ (Cell one ∧ AllLen one.length ls)) :
    Calls Tryz.prog 207 #[v1, v2] w fun e w' => e = .returned (.bool b) ∧ Below w.heap.size w w' := by
  have HC := Lib.hid (C.check_any (B := B) v1 one w h1)
  obtain ⟨A, cap, rfl, _, _⟩ := id hM
  obtain ⟨A1, cap1, rfl, _, _⟩ := id h1
  have HB := Lib.hid hb
  clear hb
  obtain ⟨q, hq⟩ : ∃ q, one.length = q := ⟨_, rfl⟩
  have HQ := Lib.hid hq
  rw [hq] at HC HB ⊢
  clear hq h1
  go_enter Tryz.func207, Tryz.ntmps207
  go_wp2
  go_loop [9] (fun i => ∃ k : Nat, k ≤ ls.length ∧ i = .int .i64 k ∧ Hid (∀ j, j < k → (ls[j]?.getD []).length = q)) (fun i => ls.length - (intOf i).toNat)
  case atStart => exact ⟨0, Nat.zero_le _, rfl, Lib.hid fun j hj => absurd hj (by omega)⟩
  case round =>
    obtain ⟨k, hk, rfl, HA⟩ := hrel
    by_cases hlt : k < ls.length
    · have hdec : decide ((k : Int) < (ls.length : Int)) = true := by simp; omega
      obtain ⟨b1, off, rfl, hb1, hrow⟩ := many_at hM (by omega)
      obtain ⟨A2, cp, hc, hB2⟩ := hrow k hlt
      clear hrow hB2
      have HL : Hid ((ls[k]?.getD []).length = q → ∀ j, j < k + 1 → (ls[j]?.getD []).length = q) := by
        intro h j hj
        rcases Nat.lt_or_ge j k with h1 | h1
        · exact HA.out j h1
        · obtain rfl : j = k := by omega
          exact h
      have HM : Hid (¬ (ls[k]?.getD []).length = q → ¬ AllLen q ls) := fun h h2 => h (h2 k hlt)
      generalize (ls[k]?.getD []).length = qq at hc HL HM
      by_cases hln : qq = q
      · have HL2 := Lib.hid (HL.out hln)
        subst hln
        have hne : ((qq : Int) != (qq : Int)) = false := by simp
        go_wp2
        go_round
        case rel => exact ⟨k + 1, by omega, by go_num, HL2⟩
        case measure => simp [intOf]; omega
      · have hne : ((qq : Int) != (q : Int)) = true := by simp; omega
        have HF : Hid (b = false) := by
          unfold Hid
          rw [Bool.eq_false_iff]
          exact fun h => HM.out hln ((HB.out).1 h).2
        have hnq : ¬ (qq : Int) = (q : Int) := by omega
        go_wp2
        go_ret
        exact ⟨ret_bool HF.out.symm, Below.refl _ _⟩
    · obtain rfl : k = ls.length := by omega
      have e1 : decide ((ls.length : Int) < (ls.length : Int)) = false := by simp
      by_cases hce : Cell one
      · rw [if_pos hce] at HC
        have HF : Hid (b = true) := (HB.out).2 ⟨hce, HA.out⟩
        clear HB HA
        go_wp2_with (go_at_call 260; refine HC.out.mono ?_; rintro e w1 ⟨rfl, hB1⟩)
        go_ret
        exact ⟨ret_bool HF.out.symm, hB1⟩
      · rw [if_neg hce] at HC
        have HF : Hid (b = false) := by
          unfold Hid
          rw [Bool.eq_false_iff]
          exact fun h => hce ((HB.out).1 h).1
        clear HB HA
        go_wp2_with (go_at_call 260; refine HC.out.mono ?_; rintro e w1 ⟨rfl, hB1⟩)
        go_ret
        exact ⟨ret_bool HF.out.symm, hB1⟩
end Go.Proofs.YtfihlelhpmjpaaaGreatDoor.E

namespace Go.Proofs.YtfihlelhpmjpaaaGreatDoor.E
open Go.RowKit Go.Shelf Go.Proofs.YtfihlelhpmjpaaaGreatDoor.C
set_option linter.unusedSimpArgs false
set_option linter.unusedVariables false

/-- The first cell of the first column. -/
def firstC (css : List (List (List UInt8))) : List UInt8 := ((css[0]?.getD [])[0]?.getD [])
/-- Columns belong together, and have R rows. -/
def TogOk (R : Nat) (css : List (List (List UInt8))) : Prop := 0 < css.length ∧ ∀ j, j < css.length → (css[j]?.getD []).length = R ∧ (Cell (firstC css) ∧ AllLen (firstC css).length (css[j]?.getD []))

set_option maxRecDepth 100000 in
set_option maxHeartbeats 1000000 in
theorem together_yes {B : Nat} (p : Int) (R : Nat) (hR : RightC 1 p) (hr : p - 1 = (R : Int)) (v : Value) (css : List (List (List UInt8))) (w : World) (hL : Laid w) (hB : B ≤ w.heap.size) (hC : Cols B w v css) (hlen : css.length ≤ 1000) (hok : TogOk R css) :
    Calls Tryz.prog 155 #[.int .i64 p, v] w fun e w' => e = .returned (.agg #[.int .i64 p, v]) ∧ Below w.heap.size w w' := by
  have HRw := Lib.hid (fun W hL => rows_any p hR W hL)
  rw [hr] at HRw
  have hR2 : 2 ≤ R := by have := hR.und.p1; omega
  have hR3 : R ≤ 16 := by have := hR.und.p2; omega
  obtain ⟨b0, off0, cap, rfl, hcap, hb0, hrow⟩ := hC.at_ hok.1
  have HRow := Lib.hid hrow
  have HOK := Lib.hid hok.2
  have hl0 := hok.1
  clear hr hR hC hrow hok
  go_enter Tryz.func155, Tryz.ntmps155
  have hBz := below_one w (.cells #[.int .i64 0, .slice none 0 0] 166)
  have bz := Blk.new w 166 #[.int .i64 0, .slice none 0 0]
  have hL1 := hL.next hBz
  have hd0 : decide (0 < (css.length : Int)) = true := by simp; omega
  go_wp2_with (go_at_call 204; refine (need_yes _).mono ?_; rintro e w3 ⟨rfl, rfl⟩)
  refine (HRw.out _ hL1).mono ?_
  rintro e w1 ⟨rfl, hB1⟩
  replace bz := bz.below hB1 bz.lt
  have hBw := below_in hBz hB1
  clear hBz hB1 hL1 HRw hL
  obtain ⟨u0, hu0, hm0⟩ := HRow.out 0 hl0
  have hlen0 := (HOK.out 0 hl0).1
  obtain ⟨A0, cap0, rfl, hcap0, _⟩ := id hm0
  obtain ⟨b1, off1, rfl, hb1, hrow1⟩ := many_at hm0 (by rw [hlen0]; omega)
  clear hm0 hcap0
  obtain ⟨c0v, hc0, hbc0⟩ := (by
    obtain ⟨A9, cp9, hc9, hB9⟩ := hrow1 0 (by rw [hlen0]; omega)
    exact ⟨_, hc9, hB9⟩ : ∃ c0v, w.cell? ⟨b1, off1 + 0, none⟩ = some c0v ∧ Bytes B w c0v (firstC css))
  rw [hlen0, Nat.add_zero] at hu0
  rw [Nat.add_zero] at hc0
  clear hrow1
  go_wp2
  go_loopw [16] (fun i wr => ∃ k : Nat, k ≤ css.length ∧ i = .int .i64 k ∧ Blk wr w.heap.size 166 #[.int .i64 0, .slice none 0 0] ∧ Below w.heap.size w wr) (fun i _ => css.length - (intOf i).toNat)
  case atStart => exact ⟨0, Nat.zero_le _, rfl, bz, hBw⟩
  case round =>
    clear bz hBw
    obtain ⟨k, hk, rfl, bz, hBr⟩ := hrel
    by_cases hlt : k < css.length
    · have hdec : decide ((k : Int) < (css.length : Int)) = true := by simp; omega
      obtain ⟨u, hu, hmu⟩ := HRow.out k hlt
      obtain ⟨hlk, hce, hal⟩ := HOK.out k hlt
      obtain ⟨Au, capu, rfl, _, _⟩ := id hmu
      have HA0 := areAlike_any c0v (.slice Au (css[k]?.getD []).length capu) (firstC css) (css[k]?.getD []) wr (hbc0.below (hBr.mono hB)) (hmu.below (hBr.mono hB)) (by omega) true (by simp [hce, hal])
      rw [hlk] at hu HA0
      have HA := Lib.hid HA0
      clear HA0
      have x0 : wr.cell? ⟨b0, off0, none⟩ = some (.slice (some ⟨b1, off1, none⟩) R cap0) := (hBr.cell (p := ⟨b0, off0, none⟩) (by exact Nat.lt_of_lt_of_le hb0 hB)).trans hu0
      have xk : wr.cell? ⟨b0, off0 + k, none⟩ = some (.slice Au R capu) := (hBr.cell (p := ⟨b0, off0 + k, none⟩) (by exact Nat.lt_of_lt_of_le hb0 hB)).trans hu
      have y0 : wr.cell? ⟨b1, off1, none⟩ = some c0v := (hBr.cell (p := ⟨b1, off1, none⟩) (by exact Nat.lt_of_lt_of_le hb1 hB)).trans hc0
      have hRR : ((R : Int) == (R : Int)) = true := by simp
      have i1 : (0 : Int) < (R : Int) := by omega
      have i2 : (0 : Int) < (css.length : Int) := by omega
      go_wp2_with (first
        | (go_at_call 207; refine HA.out.mono ?_; rintro e w4 ⟨rfl, hB4⟩)
        | (go_at_call 204; refine (need_yes _).mono ?_; rintro e w3 ⟨rfl, rfl⟩))
      go_roundw
      case rel => exact ⟨k + 1, by omega, by go_num, bz.below hB4 bz.lt, below_in hBr hB4⟩
      case measure => simp [intOf]; omega
    · obtain rfl : k = css.length := by omega
      have e1 : decide ((css.length : Int) < (css.length : Int)) = false := by simp
      have g0 := bz.cell 0
      have g1 := bz.cell 1
      have f0 := bz.frozen 0
      have f1 := bz.frozen 1
      simp only [List.getElem?_toArray, List.getElem?_cons_zero, List.getElem?_cons_succ] at g0 g1
      go_wp2
      have r := (bz.set_ 0 (.int .i64 p)).set_ 1 (.slice (some ⟨b0, off0, none⟩) css.length cap)
      have r0 := r.cell 0
      have r1 := r.cell 1
      simp only [List.setIfInBounds_toArray, List.set_cons_zero, List.set_cons_succ, List.getElem?_toArray, List.getElem?_cons_zero, List.getElem?_cons_succ] at r0 r1
      exact bodyPost_ret (v := .agg #[.int .i64 p, .slice (some ⟨b0, off0, none⟩) css.length cap]) (by simp [results, Tryz.results155, go_sem, r0, r1]) rfl ⟨rfl, (hBr.setCell (by simp) _).setCell (by simp) _⟩

end Go.Proofs.YtfihlelhpmjpaaaGreatDoor.E

namespace Go.Proofs.YtfihlelhpmjpaaaGreatDoor.E
open Go.RowKit Go.Shelf Go.Proofs.YtfihlelhpmjpaaaGreatDoor.C
set_option linter.unusedSimpArgs false
set_option linter.unusedVariables false

theorem cell_set_int {W : World} {g : Nat} {t : TypeId} {x : Int} (h : Blk W g t #[.int .i64 x]) {q : Addr} (hq : q.spot = none) {y : Value} (hy : W.cell? q = some y) (hn : ∀ n, y ≠ .int .i64 n) (u : Value) : (W.setCell ⟨g, 0, none⟩ u).cell? q = some y := by
  have hne : q.block ≠ g := fun e => by
    obtain ⟨b, off, s⟩ := q
    simp only at e hq
    subst e hq
    rw [h.cell off] at hy
    cases off with
    | zero => simp at hy; exact hn _ hy.symm
    | succ k => simp at hy
  exact (World.cell?_of_block (Below.heap_setCell W ⟨g, 0, none⟩ u q.block hne)).trans hy
theorem Bytes.set_int {W : World} {g : Nat} {t : TypeId} {x : Int} {B : Nat} {v : Value} {l : List UInt8} (h : Bytes B W v l) (hb : Blk W g t #[.int .i64 x]) (u : Value) : Bytes B (W.setCell ⟨g, 0, none⟩ u) v l := by
  obtain ⟨A, cap, e, hc, hA⟩ := h
  refine ⟨A, cap, e, hc, fun hp => ?_⟩
  obtain ⟨b, off, e2, hlt, hcell⟩ := hA hp
  exact ⟨b, off, e2, hlt, fun j hj => cell_set_int hb rfl (hcell j hj) (fun n e => by cases e) u⟩
theorem Many.set_int {W : World} {g : Nat} {t : TypeId} {x : Int} {B : Nat} {v : Value} {ls : List (List UInt8)} (h : Many B W v ls) (hb : Blk W g t #[.int .i64 x]) (u : Value) : Many B (W.setCell ⟨g, 0, none⟩ u) v ls := by
  obtain ⟨A, cap, e, hc, hA⟩ := h
  refine ⟨A, cap, e, hc, fun hp => ?_⟩
  obtain ⟨b, off, e2, hlt, hcell⟩ := hA hp
  refine ⟨b, off, e2, hlt, fun j hj => ?_⟩
  obtain ⟨y, hy, hby⟩ := hcell j hj
  obtain ⟨A3, c3, rfl, _⟩ := id hby
  exact ⟨_, cell_set_int hb rfl hy (fun n e => by cases e) u, Bytes.set_int hby hb u⟩
theorem Cols.set_int {W : World} {g : Nat} {t : TypeId} {x : Int} {B : Nat} {v : Value} {css : List (List (List UInt8))} (h : Cols B W v css) (hb : Blk W g t #[.int .i64 x]) (u : Value) : Cols B (W.setCell ⟨g, 0, none⟩ u) v css := by
  obtain ⟨A, cap, e, hc, hA⟩ := h
  refine ⟨A, cap, e, hc, fun hp => ?_⟩
  obtain ⟨b, off, e2, hlt, hcell⟩ := hA hp
  refine ⟨b, off, e2, hlt, fun j hj => ?_⟩
  obtain ⟨y, hy, hby⟩ := hcell j hj
  obtain ⟨A3, c3, rfl, _⟩ := id hby
  exact ⟨_, cell_set_int hb rfl hy (fun n e => by cases e) u, Many.set_int hby hb u⟩

/-- What is answered when nothing gave up. -/
theorem idle_S (p : Addr) (w : World) :
    CallsD Tryz.prog 237 #[.pointer (some p)] .returning w fun e u' w' => e = .returned (.tuple #[]) ∧ u' = .returning ∧ w' = w := by
  have hta := assert_errno
  refine callsD_of_wpS Tryz.func237 rfl fun c₀ cs hu => ?_
  simp only [Tryz.ntmps237, List.size_toArray, List.length_cons, List.length_nil, Nat.reduceAdd, Nat.reduceSub, Array.replicate_succ, Array.replicate_zero, List.push_toArray, List.append_toArray, List.nil_append, List.cons_append]
  apply wpS_seq
  apply wpS_region
  simp [wpOpsS, go_sem, recoverD, hu, Exit.thenS]
  all_goals (refine wpS_of_wp ?_; go_wp2; cases c₀; simp_all [bodyPostS, results, Tryz.results237])
set_option maxHeartbeats 400000 in
theorem ans_S_yes (f : Nat) (caps : Array Value) (w : World) (Post : Value → World → Prop) (hent : ∀ W, (callFunc f caps).run Tryz.prog W = .ok (.enter f caps) W)
    (h : ∀ W, Below w.heap.size w W → Blk W w.heap.size 25 #[.int .i64 0] → Calls Tryz.prog f caps W fun e w' => ∃ v, e = .returned v ∧ Post v w' ∧ Below W.heap.size W w') :
    Calls Tryz.prog 187 #[.func (.func f) #[] caps] w fun e w' => ∃ v W, e = .returned (.tuple #[v, .int .i64 0]) ∧ Post v W ∧ Blk W w.heap.size 25 #[.int .i64 0] ∧ w' = W.setCell ⟨w.heap.size, 0, none⟩ (.int .i64 0) ∧ Below w.heap.size w w' := by
  have hmf : ∀ (fn : Fn) (first cap : Array Value) (w : World), (Instr.makeFunc fn first cap).run Tryz.prog w = .ok (.func fn first cap) w := fun _ _ _ _ => rfl
  have h1 := h (w.alloc (.cells #[.int .i64 0] 25)) ((Below.refl _ w).alloc (Nat.le_refl _) _) (Blk.new w _ _)
  clear h
  go_enter_defers Tryz.func187, Tryz.ntmps187
  go_wp2
  refine h1.mono ?_
  rintro e w1 ⟨v, rfl, hv, hB1⟩
  have b1 : Blk w1 w.heap.size 25 #[.int .i64 0] := (Blk.new w _ _).below hB1 (by simp)
  have c1 := b1.cell 0
  have f1 := b1.frozen 0
  simp only [List.getElem?_toArray, List.getElem?_cons_zero] at c1
  go_wp2
  refine leaves_cons (f := 237) (args := #[.pointer (some ⟨w.heap.size, 0, none⟩)]) (by simp) (by simp [go_sem]) ?_
  refine (idle_S ⟨w.heap.size, 0, none⟩ _).mono ?_
  rintro e u' w'' ⟨rfl, rfl, rfl⟩
  have c2 : (w1.setCell ⟨w.heap.size, 0, none⟩ (.int .i64 0)).cell? ⟨w.heap.size, 0, none⟩ = some (.int .i64 0) := World.cell?_setCell_same' _ _ _ (by rw [c1]; rfl)
  simp [Leaves, settle, results, Tryz.results187, go_sem, c2]
  exact ⟨w1, hv, b1, rfl, (((Below.refl _ w).alloc (Nat.le_refl _) _).trans (hB1.mono (by simp))).setCell (Nat.le_refl _) _⟩
end Go.Proofs.YtfihlelhpmjpaaaGreatDoor.E

namespace Go.Proofs.YtfihlelhpmjpaaaGreatDoor.E
open Go.RowKit Go.Shelf Go.Proofs.YtfihlelhpmjpaaaGreatDoor.C
set_option linter.unusedSimpArgs false
set_option linter.unusedVariables false

theorem enter_data : ∀ args W, (callFunc 190 args).run Tryz.prog W = .ok (.enter 190 args) W := enters_of Tryz.func190 (by kernel_rfl) rfl
/-- Data columns of the prime p that belong together. -/
def DataOk (p : Int) (css : List (List (List UInt8))) : Prop := RightC 1 p ∧ (css.length : Int) = p ∧ TogOk (p - 1).toNat css

set_option maxRecDepth 100000 in
set_option maxHeartbeats 1000000 in
theorem asked_yes {B : Nat} (p : Int) (v : Value) (css : List (List (List UInt8))) (w : World) (hL : Laid w) (hB : B ≤ w.heap.size) (hC : Cols B w v css) (hlen : css.length ≤ 1000) (hok : DataOk p css) :
    Calls Tryz.prog 189 #[.int .i64 p, .func (.func 190) #[] #[], v] w fun e w' => e = .returned (.agg #[.int .i64 p, v]) ∧ Below w.heap.size w w' := by
  obtain ⟨hR, hn, ht⟩ := hok
  have HP := Lib.hid (fun W hL => primeOf_yes p hR W hL)
  have HD := Lib.hid (fun W hL => data_any p hR W hL)
  have HT := Lib.hid (fun W hL hB hC => together_yes (B := B) p (p - 1).toNat hR (by have := hR.und.p1; omega) v css W hL hB hC hlen ht)
  have hent := enter_data
  obtain ⟨A, cap, rfl, _, _⟩ := id hC
  have hnn : ((css.length : Int) == p) = true := by simpa using hn
  clear hR hn ht
  have hBz := below_one w (.cells #[.int .i64 0, .slice none 0 0] 166)
  have bz := Blk.new w 166 #[.int .i64 0, .slice none 0 0]
  have hL1 := hL.next hBz
  go_enter Tryz.func189, Tryz.ntmps189
  go_wp2_with fail
  refine (HP.out _ hL1).mono ?_
  rintro e w1 ⟨rfl, hB1⟩
  have hBa := below_in hBz hB1
  have hL2 := hL.next hBa
  replace bz := bz.below hB1 bz.lt
  clear hBz hB1 hL1 HP
  go_wp2_with fail
  refine (HD.out _ hL2).mono ?_
  rintro e w2 ⟨rfl, hB1⟩
  have hBb := below_in hBa hB1
  have hL3 := hL.next hBb
  replace bz := bz.below hB1 bz.lt
  clear hBa hB1 hL2 HD
  go_wp2_with (go_at_call 204; refine (need_yes _).mono ?_; rintro e w' ⟨rfl, rfl⟩)
  refine (HT.out _ hL3 (Nat.le_trans hB hBb.size) (hC.below (hBb.mono hB))).mono ?_
  rintro e w3 ⟨rfl, hB1⟩
  have hBc := below_in hBb hB1
  replace bz := bz.below hB1 bz.lt
  have g0 := bz.cell 0
  have g1 := bz.cell 1
  have f0 := bz.frozen 0
  have f1 := bz.frozen 1
  simp only [List.getElem?_toArray, List.getElem?_cons_zero, List.getElem?_cons_succ] at g0 g1
  clear hBb hB1 hL3 HT hC
  go_wp2
  have r := (bz.set_ 0 (.int .i64 p)).set_ 1 (.slice A css.length cap)
  have r0 := r.cell 0
  have r1 := r.cell 1
  simp only [List.setIfInBounds_toArray, List.set_cons_zero, List.set_cons_succ, List.getElem?_toArray, List.getElem?_cons_zero, List.getElem?_cons_succ] at r0 r1
  exact bodyPost_ret (v := .agg #[.int .i64 p, .slice A css.length cap]) (by simp [results, Tryz.results189, go_sem, r0, r1]) rfl ⟨rfl, (hBc.setCell (by simp) _).setCell (by simp) _⟩

end Go.Proofs.YtfihlelhpmjpaaaGreatDoor.E

namespace Go.Proofs.YtfihlelhpmjpaaaGreatDoor.E
open Go.RowKit Go.Shelf Go.Proofs.YtfihlelhpmjpaaaGreatDoor.C
set_option linter.unusedSimpArgs false
set_option linter.unusedVariables false

theorem BytesP.imp {P Q : Nat → Prop} {W : World} {v : Value} {l : List UInt8} (h : BytesP P W v l) (hq : ∀ b, P b → Q b) : BytesP Q W v l := by
  obtain ⟨A, cap, e, hc, hA⟩ := h
  refine ⟨A, cap, e, hc, fun hp => ?_⟩
  obtain ⟨b, off, e2, hb, hcell⟩ := hA hp
  exact ⟨b, off, e2, hq b hb, hcell⟩
theorem BytesP.below {N : Nat} {P : Nat → Prop} {W W' : World} {v : Value} {l : List UInt8} (h : BytesP P W v l) (hP : ∀ b, P b → b < N) (hb : Below N W W') : BytesP P W' v l := h.keep fun b hp => hb.block b (hP b hp)
theorem Tryz.infoSlcE : (Tryz.prog.info? 57).map (fun i => (i.zero, i.size, i.bytes)) = some (some (.slice none 0 0), 1, 24) := by kernel_rfl
/-- The function f, with what it has captured, makes the cells ls, each of its number: old ones, or new ones. -/
def MakesP (P : Nat → Prop) (fid : Nat) (caps : Array Value) (ls : List (List UInt8)) (w : World) : Prop :=
  (∀ args W, (callFunc fid args).run Tryz.prog W = .ok (.enter fid args) W) ∧ ∀ (n : Nat) (W : World), n < ls.length → Below w.heap.size w W → Calls Tryz.prog fid (#[.int .i64 (n : Int)] ++ caps) W fun e w' => ∃ u, e = .returned u ∧ BytesP (fun b => (P b ∨ W.heap.size ≤ b) ∧ b < w'.heap.size) w' u (ls[n]?.getD []) ∧ Below W.heap.size W w'
def Makes (fid : Nat) (caps : Array Value) (ls : List (List UInt8)) (w : World) : Prop := MakesP (fun b => b < w.heap.size) fid caps ls w
/-- A list of cells, in blocks of which P speaks. -/
def ManyP (P : Nat → Prop) (W : World) (v : Value) (ls : List (List UInt8)) : Prop :=
  ∃ A cap, v = .slice A ls.length cap ∧ ls.length ≤ cap ∧ (0 < ls.length → ∃ b off, A = some ⟨b, off, none⟩ ∧ P b ∧ ∀ j, j < ls.length → ∃ u, W.cell? ⟨b, off + j, none⟩ = some u ∧ BytesP P W u (ls[j]?.getD []))

set_option maxRecDepth 100000 in
set_option maxHeartbeats 1000000 in
theorem listedP_any (P : Nat → Prop) (fid : Nat) (caps : Array Value) (ls : List (List UInt8)) (w : World) (hP : ∀ b, P b → b < w.heap.size) (hlen : ls.length ≤ 1000) (hm : MakesP P fid caps ls w) :
    Calls Tryz.prog 242 #[.int .i64 (ls.length : Int), .func (.func fid) #[] caps] w fun e w' => ∃ v, e = .returned v ∧ ManyP (fun b => (P b ∨ w.heap.size ≤ b) ∧ b < w'.heap.size) w' v ls ∧ Below w.heap.size w w' := by
  obtain ⟨hent, hmk⟩ := hm
  have HM := Lib.hid hmk
  clear hmk
  obtain ⟨N, hN⟩ : ∃ N, ls.length = N := ⟨_, rfl⟩
  have HN := Lib.hid hN
  rw [hN] at hlen ⊢
  clear hN
  obtain ⟨i0, hi, hz0, hz1, hz2⟩ := info_parts Tryz.infoSlcE
  have hmake := run_make (P := Tryz.prog) w 36 57 i0 (.slice none 0 0) Tryz.underlying36 hi hz0 .i64 .i64 (N : Int) (N : Int) (by omega) (by omega) (by rw [hz2]; omega) (by omega)
  simp only [hz1, Int.toNat_natCast] at hmake
  have bA := Blk.new w 57 (madeCells (Value.slice none 0 0).cells (N * 1))
  have hBA := below_one w (.cells (madeCells (Value.slice none 0 0).cells (N * 1)) 57)
  have hbz : (madeCells (Value.slice none 0 0).cells (N * 1)).size = N * 1 := size_madeCells _ _
  obtain ⟨wA, hwA⟩ : ∃ wA, w.alloc (.cells (madeCells (Value.slice none 0 0).cells (N * 1)) 57) = wA := ⟨_, rfl⟩
  rw [hwA] at hmake bA hBA
  generalize madeCells (Value.slice none 0 0).cells (N * 1) = csA at bA hbz
  rw [Nat.mul_one] at hbz
  clear hwA hi hz0 hz1 hz2
  go_enter Tryz.func242, Tryz.ntmps242
  go_wp2_with fail
  go_loopw [10] (fun i wr => ∃ (k : Nat) (cs : Array Value), k ≤ N ∧ i = .int .i64 k ∧ Blk wr w.heap.size 57 cs ∧ cs.size = N ∧ Hid (∀ j, j < k → ∃ u, cs[j]? = some u ∧ BytesP (fun b => b ≠ w.heap.size ∧ b < wr.heap.size ∧ (P b ∨ w.heap.size ≤ b)) wr u (ls[j]?.getD [])) ∧ Below w.heap.size w wr) (fun i _ => N - (intOf i).toNat)
  case atStart => exact ⟨0, csA, by omega, rfl, bA, hbz, Lib.hid (fun j hj => absurd hj (by omega)), hBA⟩
  case round =>
    clear bA hbz hBA hmake
    obtain ⟨k, cs, hk, rfl, bA, hbz, HJ, hBr⟩ := hrel
    by_cases hlt : k < N
    · have hdec : decide ((k : Int) < (N : Int)) = true := by simp; omega
      have hcall := HM.out k wr (by rw [HN.out]; exact hlt) hBr
      have i1 : (0 : Int) ≤ (k : Int) := by omega
      have i2 : (k : Int) < (N : Int) := by omega
      go_wp2_with fail
      refine hcall.mono ?_
      rintro e w4 ⟨u, rfl, hu, hB4⟩
      obtain ⟨Au, capu, rfl, _⟩ := id hu
      have bA4 := bA.below hB4 bA.lt
      have c0 := bA4.cell k
      rw [Array.getElem?_eq_getElem (show k < cs.size by omega)] at c0
      have f0 := bA4.frozen k
      have hgl := bA.lt
      have hs4 := hB4.size
      have HST : Hid (∀ V, V = w4.setCell ⟨w.heap.size, k, none⟩ (.slice Au (ls[k]?.getD []).length capu) →
          Blk V w.heap.size 57 (cs.setIfInBounds k (.slice Au (ls[k]?.getD []).length capu)) ∧ Below w.heap.size w V ∧
          ∀ j, j < k + 1 → ∃ u, (cs.setIfInBounds k (.slice Au (ls[k]?.getD []).length capu))[j]? = some u ∧ BytesP (fun b => b ≠ w.heap.size ∧ b < V.heap.size ∧ (P b ∨ w.heap.size ≤ b)) V u (ls[j]?.getD [])) := fun V hV => by
        have hVs : V.heap.size = w4.heap.size := by rw [hV]; simp
        have hKe : Keeps (fun b => b ≠ w.heap.size) w4 V := fun b hb => by rw [hV]; exact Below.heap_setCell w4 _ _ b (by simpa using hb)
        refine ⟨by rw [hV]; exact bA4.set_ k _, by rw [hV]; exact (below_in hBr hB4).setCell (by simp) _, fun j hj => ?_⟩
        by_cases hjk : j = k
        · subst hjk
          exact ⟨_, Array.getElem?_setIfInBounds_self_of_lt (by omega), (BytesP.imp hu (Q := fun b => b ≠ w.heap.size ∧ b < V.heap.size ∧ (P b ∨ w.heap.size ≤ b)) (fun b hb => ⟨by rcases hb.1 with h | h; have := hP b h; omega; omega, by rw [hVs]; exact hb.2, hb.1.imp id fun h => by omega⟩)).keep (fun b hb => hKe b hb.1)⟩
        · obtain ⟨u1, h1, h2⟩ := HJ.out j (by omega)
          have h3 := BytesP.below h2 (N := wr.heap.size) (fun b hb => hb.2.1) hB4
          exact ⟨u1, by rw [Array.getElem?_setIfInBounds_ne (by omega)]; exact h1, (BytesP.imp h3 (Q := fun b => b ≠ w.heap.size ∧ b < V.heap.size ∧ (P b ∨ w.heap.size ≤ b)) (fun b hb => ⟨hb.1, by rw [hVs]; have := hb.2.1; omega, hb.2.2⟩)).keep (fun b hb => hKe b hb.1)⟩
      generalize cs[k]'_ = o0 at c0
      clear hu hcall hB4 HJ
      go_wp2
      go_roundw
      case rel => exact ⟨k + 1, _, hlt, by go_num, (HST.out _ rfl).1, by simpa using hbz, Lib.hid (HST.out _ rfl).2.2, (HST.out _ rfl).2.1⟩
      case measure => simp [intOf]; omega
    · obtain rfl : k = N := by omega
      have hdec : decide ((k : Int) < (k : Int)) = false := by simp
      go_wp2
      go_ret
      refine ⟨_, rfl, ⟨some ⟨w.heap.size, 0, none⟩, k, by rw [HN.out]; rfl, by rw [HN.out]; exact Nat.le_refl _, fun h0 => ⟨w.heap.size, 0, rfl, ⟨.inr (Nat.le_refl _), bA.lt⟩, fun j hj => ?_⟩⟩, hBr⟩
      obtain ⟨u1, h1, h2⟩ := HJ.out j (by rw [← HN.out]; exact hj)
      exact ⟨u1, by rw [Nat.zero_add, bA.cell j]; exact h1, BytesP.imp h2 (fun b hb => ⟨hb.2.2, hb.2.1⟩)⟩
theorem ManyP.many {P : Nat → Prop} {N : Nat} {W : World} {v : Value} {ls : List (List UInt8)} (h : ManyP P W v ls) (hP : ∀ b, P b → b < N) : Many N W v ls := by
  obtain ⟨A, cap, e, hc, hA⟩ := h
  refine ⟨A, cap, e, hc, fun hp => ?_⟩
  obtain ⟨b, off, e2, hb, hcell⟩ := hA hp
  exact ⟨b, off, e2, hP b hb, fun j hj => by obtain ⟨u, h1, h2⟩ := hcell j hj; exact ⟨u, h1, BytesP.imp h2 hP⟩⟩
theorem listed_any (fid : Nat) (caps : Array Value) (ls : List (List UInt8)) (w : World) (hlen : ls.length ≤ 1000) (hm : Makes fid caps ls w) :
    Calls Tryz.prog 242 #[.int .i64 (ls.length : Int), .func (.func fid) #[] caps] w fun e w' => ∃ v, e = .returned v ∧ Many w'.heap.size w' v ls ∧ Below w.heap.size w w' :=
  (listedP_any (fun b => b < w.heap.size) fid caps ls w (fun _ h => h) hlen hm).mono fun e w' ⟨v, h1, h2, h3⟩ => ⟨v, h1, h2.many fun b hb => hb.2, h3⟩
end Go.Proofs.YtfihlelhpmjpaaaGreatDoor.E

namespace Go.Proofs.YtfihlelhpmjpaaaGreatDoor.E
open Go.RowKit Go.Shelf Go.Proofs.YtfihlelhpmjpaaaGreatDoor.C
set_option linter.unusedSimpArgs false
set_option linter.unusedVariables false

def FewC (cs : List (List UInt8)) : Prop := cs.length ≤ 20 ∧ ∀ k, k < cs.length → (cs[k]?.getD []).length ≤ 70
def Few6 (css : List (List (List UInt8))) : Prop := css.length ≤ 24 ∧ ∀ j, j < css.length → FewC (css[j]?.getD [])
theorem all_next {P : Nat → Prop} {k : Nat} (h : ∀ j, j < k → P j) (hk : P k) : ∀ j, j < k + 1 → P j := by
  intro j hj
  rcases Nat.lt_or_ge j k with h1 | h1
  · exact h j h1
  · obtain rfl : j = k := by omega
    exact hk
set_option maxRecDepth 100000 in
set_option maxHeartbeats 1000000 in
theorem few6_any {B : Nat} (v : Value) (css : List (List (List UInt8))) (w : World) (hC : Cols B w v css) (b : Bool) (hb : b = true ↔ Few6 css) :
    Calls Tryz.prog 13 #[v] w fun e w' => e = .returned (.bool b) ∧ w = w' := by
  obtain ⟨A, cap, rfl, _, _⟩ := id hC
  by_cases h24 : css.length ≤ 24
  · have d0 : decide ((24 : Int) < (css.length : Int)) = false := by simp; omega
    go_enter Tryz.func13, Tryz.ntmps13
    go_wp2
    go_loop [3] (fun i => ∃ k : Nat, k ≤ css.length ∧ i = .int .i64 k ∧ Hid (∀ j, j < k → FewC (css[j]?.getD []))) (fun i => css.length - (intOf i).toNat)
    case atStart => exact ⟨0, Nat.zero_le _, rfl, Lib.hid fun j hj => absurd hj (by omega)⟩
    case round =>
      obtain ⟨k, hk, rfl, HA⟩ := hrel
      by_cases hlt : k < css.length
      · have hdec : decide ((k : Int) < (css.length : Int)) = true := by simp; omega
        obtain ⟨b1, off1, cap1, e1, _, _, hrow1⟩ := hC.at_ (by omega)
        injection e1 with e1 _ _
        subst e1
        obtain ⟨u, hu, hm⟩ := hrow1 k hlt
        obtain ⟨A2, cap2, rfl, _, _⟩ := id hm
        have HN := Lib.hid (fun (h : b = true) => (hb.1 h).2 k hlt)
        have HL := Lib.hid (fun (h : FewC (css[k]?.getD [])) => all_next HA.out h)
        clear hrow1
        generalize css[k]?.getD [] = cs at *
        by_cases h20 : cs.length ≤ 20
        · have d1 : decide ((20 : Int) < (cs.length : Int)) = false := by simp; omega
          go_wp2
          go_loop [4] (fun i => ∃ m : Nat, m ≤ cs.length ∧ i = .int .i64 m ∧ Hid (∀ j, j < m → (cs[j]?.getD []).length ≤ 70)) (fun i => cs.length - (intOf i).toNat)
          case atStart => exact ⟨0, Nat.zero_le _, rfl, Lib.hid fun j hj => absurd hj (by omega)⟩
          case round =>
            obtain ⟨m, hm2, rfl, HA2⟩ := hrel
            by_cases hlt2 : m < cs.length
            · have hdec2 : decide ((m : Int) < (cs.length : Int)) = true := by simp; omega
              obtain ⟨b2, off2, rfl, _, hrow2⟩ := many_at hm (by omega)
              obtain ⟨B1, cp1, hc1, _⟩ := hrow2 m hlt2
              have HN2 := Lib.hid (fun (h : b = true) => (HN.out h).2 m hlt2)
              have HL2 := Lib.hid (fun (h : (cs[m]?.getD []).length ≤ 70) => all_next HA2.out h)
              clear hrow2
              generalize (cs[m]?.getD []).length = x at hc1 HN2 HL2
              by_cases hx : x ≤ 70
              · have d2 : decide ((70 : Int) < (x : Int)) = false := by simp; omega
                go_wp2
                go_round
                case rel => exact ⟨m + 1, by omega, by go_num, Lib.hid (HL2.out hx)⟩
                case measure => simp [intOf]; omega
              · have d2 : decide ((70 : Int) < (x : Int)) = true := by simp; omega
                go_wp2
                go_ret
                exact ⟨ret_bool (Bool.eq_false_iff.2 fun h => hx (HN2.out h)).symm, rfl⟩
            · obtain rfl : m = cs.length := by omega
              have e1 : decide ((cs.length : Int) < (cs.length : Int)) = false := by simp
              go_wp2
              go_round
              case rel => exact ⟨k + 1, by omega, by go_num, Lib.hid (HL.out ⟨h20, HA2.out⟩)⟩
              case measure => simp [intOf]; omega
        · have d1 : decide ((20 : Int) < (cs.length : Int)) = true := by simp; omega
          go_wp2
          go_ret
          exact ⟨ret_bool (Bool.eq_false_iff.2 fun h => h20 (HN.out h).1).symm, rfl⟩
      · obtain rfl : k = css.length := by omega
        have e1 : decide ((css.length : Int) < (css.length : Int)) = false := by simp
        go_wp2
        go_ret
        exact ⟨ret_bool (hb.2 ⟨h24, HA.out⟩).symm, rfl⟩
  · have d0 : decide ((24 : Int) < (css.length : Int)) = true := by simp; omega
    have hbf : b = false := Bool.eq_false_iff.2 fun h => h24 (hb.1 h).1
    subst hbf
    go_enter Tryz.func13, Tryz.ntmps13
    go_wp2
    go_ret
    exact ⟨rfl, rfl⟩

def RightD (p : Int) (css : List (List (List UInt8))) : Prop := p ∈ prm ∧ TogOk (p - 1).toNat css
def GoodC (R n : Nat) (cs : List (List UInt8)) : Prop := cs.length = R ∧ ∀ r, r < R → Cell (cs[r]?.getD []) ∧ (cs[r]?.getD []).length = n
theorem rightD_iff {p : Int} {css : List (List (List UInt8))} (hp : p ∈ prm) (h0 : 0 < css.length) : RightD p css ↔ ∀ j, j < css.length → GoodC (p - 1).toNat (firstC css).length (css[j]?.getD []) := by
  have hpp := prm_bounds hp
  constructor
  · rintro ⟨_, _, h⟩ j hj
    obtain ⟨h1, h2, h3⟩ := h j hj
    refine ⟨h1, fun r hr => ?_⟩
    have h4 := h3 r (by omega)
    refine ⟨?_, h4⟩
    unfold Cell at h2 ⊢
    omega
  · intro h
    refine ⟨hp, h0, fun j hj => ⟨(h j hj).1, ((h 0 h0).2 0 (by omega)).1, fun r hr => ((h j hj).2 r (by have := (h j hj).1; omega)).2⟩⟩
set_option maxRecDepth 100000 in
set_option maxHeartbeats 2000000 in
theorem right6_any {B : Nat} (p : Int) (v : Value) (css : List (List (List UInt8))) (w : World) (hB : B ≤ w.heap.size) (hC : Cols B w v css) (hlen : css.length ≤ 1000) (b : Bool) (hb : b = true ↔ RightD p css) :
    Calls Tryz.prog 25 #[.int .i64 p, v] w fun e w' => e = .returned (.bool b) ∧ Below w.heap.size w w' := by
  have HR := Lib.hid (Go.Proofs.YtfihlelhpmjpaaaGreatDoor.right_any p w)
  obtain ⟨A, cap, rfl, _, _⟩ := id hC
  by_cases hp : p ∈ prm
  · rw [decide_eq_true hp] at HR
    have hpp := prm_bounds hp
    by_cases h0 : 0 < css.length
    · have e0 : ((css.length : Int) == 0) = false := by rw [beq_eq_false_iff_ne]; omega
      have HI := Lib.hid (rightD_iff (css := css) hp h0)
      have HB := Lib.hid hb
      obtain ⟨R, hR⟩ : ∃ R : Nat, p - 1 = (R : Int) := ⟨(p - 1).toNat, by omega⟩
      have hR2 : (p - 1).toNat = R := by omega
      rw [hR2] at HI
      have hpw : IntKind.i64.wrap (p - 1) = (R : Int) := by rw [← hR]; exact IntWalk.i64_in _ (by omega)
      have hRn : 2 ≤ R ∧ R ≤ 16 := by omega
      obtain ⟨b1, off1, cap1, e1, _, hb1, hrow1⟩ := hC.at_ (by omega)
      injection e1 with e1 _ _
      subst e1
      have HROW := Lib.hid hrow1
      clear hb hp hR2 hpp hC hrow1
      go_enter Tryz.func25, Tryz.ntmps25
      go_wp2_with (go_at_call 16; refine HR.out.mono ?_; rintro e w1 ⟨rfl, hB1⟩)
      clear HR
      go_loopw [5] (fun i wr => ∃ k : Nat, k ≤ css.length ∧ i = .int .i64 k ∧ Hid (∀ j, j < k → GoodC R (firstC css).length (css[j]?.getD [])) ∧ Below w.heap.size w wr) (fun i _ => css.length - (intOf i).toNat)
      case atStart => exact ⟨0, Nat.zero_le _, rfl, (Lib.hid fun j hj => absurd hj (by omega)), hB1⟩
      case round =>
        clear hB1
        obtain ⟨k, hk, rfl, HA, hBr⟩ := hrel
        by_cases hlt : k < css.length
        · have hdec : decide ((k : Int) < (css.length : Int)) = true := by simp; omega
          obtain ⟨u, hu0, hm0⟩ := HROW.out k hlt
          obtain ⟨A2, cap2, rfl, _, _⟩ := id hm0
          have hu := (hBr.cell (p := ⟨b1, off1 + k, none⟩) (Nat.lt_of_lt_of_le hb1 hB)).trans hu0
          have HN := Lib.hid (fun (h : b = true) => HI.out.1 (HB.out.1 h) k hlt)
          have HL := Lib.hid (fun (h : GoodC R (firstC css).length (css[k]?.getD [])) => all_next HA.out h)
          have HF : Hid (k = 0 → css[k]?.getD [] = css[0]?.getD []) := fun e => by rw [e]
          have HF0 : Hid (0 < k → (css[0]?.getD []).length = R) := fun e => (HA.out 0 e).1
          generalize css[k]?.getD [] = cs at *
          by_cases hcl : cs.length = R
          · have hne : ((cs.length : Int) != (R : Int)) = false := by rw [hcl]; simp
            have hR0 : (css[0]?.getD []).length = R := by
              rcases Nat.eq_zero_or_pos k with h | h
              · rw [← HF.out h]; exact hcl
              · exact HF0.out h
            obtain ⟨u9, hu9, hm9⟩ := HROW.out 0 h0
            obtain ⟨A9, cap9, rfl, _, _⟩ := id hm9
            obtain ⟨b9, off9, rfl, hb9, hrow9⟩ := many_at hm9 (by omega)
            obtain ⟨B9, cp9, hc9, _⟩ := hrow9 0 (by omega)
            rw [Nat.add_zero] at hc9 hu9
            have HU9 := Lib.hid hu9
            have HC9 : Hid (w.cell? ⟨b9, off9, none⟩ = some (.slice B9 (firstC css).length cp9)) := hc9
            obtain ⟨R9, hR9⟩ : ∃ x, (css[0]?.getD []).length = x := ⟨_, rfl⟩
            rw [hR9] at HU9 hR0
            subst hR0
            clear hu9 hc9 hm9 hrow9 hR9
            have hcl' := Lib.hid hcl
            have HU := Lib.hid hu0
            obtain ⟨b2, off2, e2, hb2, hrow2⟩ := many_at hm0 (by omega)
            subst e2
            have HROW2 := Lib.hid hrow2
            clear hrow2 hm0
            rw [hcl] at hu HU
            clear hne hcl hu0
            have hne : ((R9 : Int) != (R9 : Int)) = false := by simp
            generalize (firstC css).length = n at *
            go_wp2
            obtain ⟨wq, hwq⟩ : ∃ x, x = wr := ⟨_, rfl⟩
            subst hwq
            go_loopw [6] (fun i wr => ∃ m : Nat, m ≤ R9 ∧ i = .int .i64 m ∧ Hid (∀ r, r < m → Cell (cs[r]?.getD []) ∧ (cs[r]?.getD []).length = n) ∧ Below w.heap.size w wr) (fun i _ => R9 - (intOf i).toNat)
            case atStart => exact ⟨0, Nat.zero_le _, rfl, (Lib.hid fun j hj => absurd hj (by omega)), hBr⟩
            case round =>
              clear hBr hu
              obtain ⟨m, hm2, rfl, HA2, hBr⟩ := hrel
              by_cases hlt2 : m < R9
              · have hdec2 : decide ((m : Int) < (R9 : Int)) = true := by simp; omega
                obtain ⟨B3, cp3, hc3, hby3⟩ := HROW2.out m (by have := hcl'.out; omega)
                have cu := (hBr.cell (p := ⟨b1, off1 + k, none⟩) (Nat.lt_of_lt_of_le hb1 hB)).trans HU.out
                have c3 := (hBr.cell (p := ⟨b2, off2 + m, none⟩) (Nat.lt_of_lt_of_le hb2 hB)).trans hc3
                have c9 := (hBr.cell (p := ⟨b1, off1, none⟩) (Nat.lt_of_lt_of_le hb1 hB)).trans HU9.out
                have c90 := (hBr.cell (p := ⟨b9, off9, none⟩) (Nat.lt_of_lt_of_le hb9 hB)).trans HC9.out
                have HRr := Lib.hid (fun n => C.right_any _ _ (wr.drewN n) ((hby3.below (hBr.mono hB)).keep (W' := wr.drewN n) fun _ _ => rfl))
                have HN2 := Lib.hid (fun (h : b = true) => (HN.out h).2 m hlt2)
                have HL2 := Lib.hid (fun (h : Cell (cs[m]?.getD []) ∧ (cs[m]?.getD []).length = n) => all_next HA2.out h)
                clear hc3 hby3
                generalize cs[m]?.getD [] = x at *
                by_cases hcx : Cell x
                · rw [decide_eq_true hcx] at HRr
                  by_cases hxn : x.length = n
                  · have HL3 := Lib.hid (HL2.out ⟨hcx, hxn⟩)
                    have e1 : ((x.length : Int) != (x.length : Int)) = false := by simp
                    clear HL2 HN2 hcx HL HN HA HA2 HF HF0
                    subst hxn
                    go_wp2
                    go_quiet ((go_at_call 59; refine (HRr.out _).mono ?_; rintro e w' ⟨rfl, rfl⟩; exact ⟨rfl, _, rfl⟩))
                    go_wp2
                    go_roundw
                    case rel => exact ⟨m + 1, by omega, by go_num, HL3, below_drewN hBr _⟩
                    case measure => simp [intOf]; omega
                  · have e1 : ((x.length : Int) != (n : Int)) = true := by rw [bne_iff_ne]; omega
                    have HF := Lib.hid (Bool.eq_false_iff.2 fun h => hxn (HN2.out h).2)
                    clear HL2 HN2 hcx hxn HL HN HA HA2
                    go_wp2
                    go_quiet ((go_at_call 59; refine (HRr.out _).mono ?_; rintro e w' ⟨rfl, rfl⟩; exact ⟨rfl, _, rfl⟩))
                    go_wp2
                    go_ret
                    exact ⟨ret_bool HF.out.symm, below_drewN hBr _⟩
                · rw [decide_eq_false hcx] at HRr
                  have HF := Lib.hid (Bool.eq_false_iff.2 fun h => hcx (HN2.out h).1)
                  clear HL2 HN2 hcx HL HN HA HA2
                  go_wp2
                  go_quiet ((go_at_call 59; refine (HRr.out _).mono ?_; rintro e w' ⟨rfl, rfl⟩; exact ⟨rfl, _, rfl⟩))
                  go_wp2
                  go_ret
                  exact ⟨ret_bool HF.out.symm, below_drewN hBr _⟩
              · obtain rfl : m = R9 := by omega
                have e1 : decide ((m : Int) < (m : Int)) = false := by simp
                go_wp2
                go_roundw
                case rel => exact ⟨k + 1, by omega, by go_num, Lib.hid (HL.out ⟨hcl'.out, HA2.out⟩), hBr⟩
                case measure => simp [intOf]; omega
          · have hne : ((cs.length : Int) != (R : Int)) = true := by rw [bne_iff_ne]; omega
            go_wp2
            go_ret
            exact ⟨ret_bool (Bool.eq_false_iff.2 fun h => hcl (HN.out h).1).symm, hBr⟩
        · obtain rfl : k = css.length := by omega
          have e1 : decide ((css.length : Int) < (css.length : Int)) = false := by simp
          go_wp2
          go_ret
          exact ⟨ret_bool (HB.out.2 (HI.out.2 HA.out)).symm, hBr⟩
    · have e0 : ((css.length : Int) == 0) = true := by rw [beq_iff_eq]; omega
      have hbf : b = false := Bool.eq_false_iff.2 fun h => h0 (hb.1 h).2.1
      subst hbf
      clear hb hp
      go_enter Tryz.func25, Tryz.ntmps25
      go_wp2_with (go_at_call 16; refine HR.out.mono ?_; rintro e w1 ⟨rfl, hB1⟩)
      go_ret
      exact ⟨rfl, hB1⟩
  · rw [decide_eq_false hp] at HR
    have hbf : b = false := Bool.eq_false_iff.2 fun h => hp (hb.1 h).1
    subst hbf
    clear hb hp
    go_enter Tryz.func25, Tryz.ntmps25
    go_wp2_with (go_at_call 16; refine HR.out.mono ?_; rintro e w1 ⟨rfl, hB1⟩)
    go_ret
    exact ⟨rfl, hB1⟩
end Go.Proofs.YtfihlelhpmjpaaaGreatDoor.E

namespace Go.Proofs.YtfihlelhpmjpaaaGreatDoor
open Go.RowKit Go.Shelf
set_option linter.unusedVariables false
set_option linter.unusedSimpArgs false

/-- Whatever order is picked from here on, S holds behind each operation. -/
def anyHF (F : Fence) (n : Nat) (P : Program) (md : Region.Mode) (ops : Array Oper) (Q : Exit → Act → World → Prop) (S : World → Prop) : Nat → Array Bool → Act → World → Prop
  | 0, listed, a, w => Region.ready md ops listed = [] ∧ Q .normal a w
  | k + 1, listed, a, w => (Region.ready md ops listed = [] → Q .normal a w) ∧ ∀ i ∈ Region.ready md ops listed, wpOpIn F n P ops Q i (fun a' w' => S w' ∧ anyHF F n P md ops Q S k (listed.setIfInBounds i true) a' w') a w
section
variable {F : Fence} {n : Nat} {P : Program} {md : Region.Mode} {ops : Array Oper} {Q : Exit → Act → World → Prop} {S : World → Prop}
theorem anyHF.any : ∀ (k : Nat) (listed : Array Bool) (a : Act) (w : World), anyHF F n P md ops Q S k listed a w → wpAnyIn F n P md ops Q k listed a w
  | 0, _, _, _, h => h
  | k + 1, _, _, _, h => ⟨h.1, fun i hi => wpOpIn_mono (fun a' w' h' => anyHF.any k _ a' w' h'.2) (h.2 i hi)⟩
/-- o leaves v, in whatever world that S holds in, and calls nothing. -/
def Leaves (P : Program) (ops : Array Oper) (S : World → Prop) (o : Oper) (v : Value) (a : Act) : Prop := YieldsIf P ops S o v a ∧ ∀ w, o.about P w a.eval = none
theorem Leaves.op {i : Nat} {o : Oper} {v : Value} {a : Act} (hnd : notDefer o.op = true) (hi : ops[i]? = some o) (hy : Leaves P ops S o v a) {K : Act → World → Prop} {w : World} (hS : S w) (h : K (a.put o.dst v) w) : wpOpIn F n P ops Q i K a w := by
  unfold Go.wpOpIn
  simp only [hi]
  have hab : ∀ f, o.about P w a.eval = some f → F.fn f := fun f hf => by rw [hy.2 w] at hf; cases hf
  rcases hy.1 with ⟨hw, hv⟩ | ⟨hw, rfl⟩
  · simp only [hw, if_true, Oper.wpIn]
    rw [Oper.semAt_plain _ _ _ (notDefer_ne hnd), hv w hS]
    exact ⟨hab, h⟩
  · simp only [hw, Bool.false_eq_true, if_false]; exact ⟨hab, h⟩
theorem Leaves.put {j : Nat} {oi oj : Oper} {v : Value} (hnd : notDefer oj.op = true) (hj : ops[j]? = some oj) (hap : oi.apart ops oj = true)
    (hsi : ∀ cs b, oi.op ≠ .select cs b) (hsj : ∀ cs b, oj.op ≠ .select cs b) (hQ : ∀ c a w, Q (.panic c) (a.put oi.dst v) w → Q (.panic c) a w) {K : Act → World → Prop} {a : Act} {w : World}
    (hy : Leaves P ops S oi v a) (h : wpOpIn F n P ops Q j K (a.put oi.dst v) w) : wpOpIn F n P ops Q j (fun a' w' => Leaves P ops S oi v a' ∧ K (a'.put oi.dst v) w') a w := by
  obtain ⟨h1, h2, h3⟩ := Oper.apart_spec hap
  have keep : ∀ u, Leaves P ops S oi v (a.put oj.dst u) := fun u =>
    ⟨hy.1.of_same (execOp_put oi hsi a oj.dst u h3) (wanted_put oi a oj.dst u h3), fun w => (about_put oi w a oj.dst u h3).trans (hy.2 w)⟩
  unfold wpOpIn at *
  simp only [hj] at *
  rw [wanted_put oj a oi.dst v h1, about_put oj w a oi.dst v h1] at h
  split
  · rename_i hw
    simp only [hw, if_true] at h
    unfold Oper.wpIn at *
    rw [about_put oj w a oi.dst v h1, Oper.semAt_plain _ _ _ (notDefer_ne hnd), execOp_put oj hsj a oi.dst v h1] at h
    rw [Oper.semAt_plain _ _ _ (notDefer_ne hnd)]
    obtain ⟨hab, h⟩ := h
    refine ⟨hab, ?_⟩
    clear hab
    generalize (execOp a.eval oj).run P w = r at *
    cases r with
    | ok x w' =>
      cases x <;> simp only [Oper.uponIn] at h ⊢
      case value u => exact ⟨keep u, by rw [← Act.put_comm a v u h2]; exact h⟩
      case skip => exact ⟨keep _, by rw [← Act.put_comm a v undef h2]; exact h⟩
      case defer d =>
        refine ⟨⟨hy.1.of_same (execOp_put oi hsi { a with defers := d :: a.defers } oj.dst undef h3) (wanted_put oi { a with defers := d :: a.defers } oj.dst undef h3), fun w => (about_put oi w { a with defers := d :: a.defers } oj.dst undef h3).trans (hy.2 w)⟩, ?_⟩
        rw [← Act.put_comm _ v undef h2, ← Act.put_defers]
        exact h
      case enter f args =>
        refine ⟨h.1, CallsIn.mono h.2 fun e w'' he => ?_⟩
        cases e with
        | returned u => exact ⟨keep u, by rw [← Act.put_comm a v u h2]; exact he⟩
        | panicked c => exact hQ _ _ _ he
        | outgrown => exact he
      case row row args => exact ⟨h.1, RowsIn.mono h.2 fun u w'' he => ⟨keep u, by rw [← Act.put_comm a v u h2]; exact he⟩⟩
      case round l f tmps assign body =>
        refine ⟨h.1, RoundIn.mono h.2 fun e w'' he => ?_⟩
        cases e with
        | returned u => exact ⟨keep u, by rw [← Act.put_comm a v u h2]; exact he⟩
        | panicked c => exact hQ _ _ _ he
        | outgrown => exact he
    | halt x w' =>
      cases x <;> simp only [Oper.uponIn] at h ⊢
      case panic u => exact hQ _ _ _ h
  · rename_i hw
    simp only [hw] at h
    exact ⟨h.1, keep _, by rw [← Act.put_comm a v undef h2]; exact h.2⟩
theorem anyHF_first {i : Nat} {oi : Oper} {v : Value} (hnd : ∀ (i : Nat) (o : Oper), ops[i]? = some o → notDefer o.op = true) (hi : ops[i]? = some oi) (hsel : ∀ (j : Nat) (o : Oper) cs b, ops[j]? = some o → o.op ≠ .select cs b)
    (hQ : ∀ c a w, Q (.panic c) (a.put oi.dst v) w → Q (.panic c) a w) :
    ∀ (k : Nat) (listed : Array Bool) (a : Act) (w : World),
      (∀ j oj, ops[j]? = some oj → j ≠ i → listed.getD j true = false → (∀ e ∈ oj.after, Region.binds md e = true → e.on ≠ i) → oi.apart ops oj = true) →
      i ∈ Region.ready md ops listed → Leaves P ops S oi v a → S w →
      anyHF F n P md ops Q S k (listed.setIfInBounds i true) (a.put oi.dst v) w → anyHF F n P md ops Q S (k + 1) listed a w := by
  intro k
  induction k with
  | zero =>
    intro listed a w _ hr hy hS H
    refine ⟨fun h => (by rw [h] at hr; cases hr), fun j hj => ?_⟩
    by_cases hji : j = i
    · subst hji; exact hy.op (hnd _ _ hi) hi hS ⟨hS, H⟩
    · have := ready_mono hj hji
      rw [H.1] at this
      cases this
  | succ k ih =>
    intro listed a w hfree hr hy hS H
    refine ⟨fun h => (by rw [h] at hr; cases hr), fun j hj => ?_⟩
    by_cases hji : j = i
    · subst hji; exact hy.op (hnd _ _ hi) hi hS ⟨hS, H⟩
    · have h1 := H.2 j (ready_mono hj hji)
      obtain ⟨hjun, oj, hoj, hall⟩ := mem_ready.1 hj
      have hnot : ∀ e ∈ oj.after, Region.binds md e = true → e.on ≠ i := fun e he hb heq => by
        have h1 := hall e he hb
        have h0 := (mem_ready.1 hr).1
        rw [heq] at h1
        rcases Nat.lt_or_ge i listed.size with h' | h'
        · simp [h'] at h0 h1; rw [h0] at h1; cases h1
        · simp [Array.getElem?_eq_none h'] at h1
      have h2 := Leaves.put (hnd _ _ hoj) hoj (hfree j oj hoj hji hjun hnot) (fun cs b => hsel i oi cs b hi) (fun cs b => hsel j oj cs b hoj) hQ hy h1
      refine wpOpIn_mono (fun a' w' h3 => ⟨h3.2.1, ih (listed.setIfInBounds j true) a' w' (fun x ox hx hxi hun hno => hfree x ox hx hxi ?_ hno) (ready_mono hr (Ne.symm hji)) h3.1 h3.2.1 ?_⟩) h2
      · by_cases hjx : j = x
        · subst hjx; exact hjun
        · rw [getD_set_ne true hjx] at hun; exact hun
      · rw [Array.setIfInBounds_comm _ _ hji]
        exact h3.2.2
theorem anyHF_take {i : Nat} {oi : Oper} {d : Tmp} {v : Value} {k : Nat} {listed : Array Bool} {a : Act} {w : World} (hnd : (ops.toList.all fun o => notDefer o.op) = true) (hi : ops[i]? = some oi)
    (hs : Region.noSelect ops = true) (hf : Region.free md ops listed i = true) (hr : (Region.ready md ops listed).contains i = true) (hd : oi.dst = some d)
    (hQ : ∀ c a w, Q (.panic c) (a.put oi.dst v) w → Q (.panic c) a w) (hy : Leaves P ops S oi v a) (hS : S w)
    (h : anyHF F n P md ops Q S k (listed.setIfInBounds i true) { tmps := a.tmps.setIfInBounds d v, defers := a.defers } w) : anyHF F n P md ops Q S (k + 1) listed a w :=
  anyHF_first (all_nd hnd) hi (Region.noSelect_spec hs) hQ k listed a w (Region.free_spec hi hf) (by simpa using hr) hy hS (by unfold Act.put; rw [hd]; exact h)
theorem anyHF_one {i : Nat} {o : Oper} {k : Nat} {listed : Array Bool} {a : Act} {w : World} (hr : Region.ready md ops listed = [i]) (ho : ops[i]? = some o) (hnd : (ops.toList.all fun o => notDefer o.op) = true) (hw : Region.wanted o (yielded ops a.tmps) = true)
    (h : Oper.wpIn F n P o a w (fun a' w' => S w' ∧ anyHF F n P md ops Q S k (listed.setIfInBounds i true) a' w') Q) : anyHF F n P md ops Q S (k + 1) listed a w :=
  ⟨fun h0 => (by rw [hr] at h0; cases h0), fun j hj => by
    rw [hr] at hj
    obtain rfl := List.mem_singleton.1 hj
    unfold wpOpIn
    rw [ho]
    simp only [hw, if_true]
    exact h⟩
theorem anyHF_done {listed : Array Bool} {a : Act} {w : World} (hr : Region.ready md ops listed = []) (h : Q .normal a w) : ∀ k, anyHF F n P md ops Q S k listed a w
  | 0 => ⟨hr, h⟩
  | _ + 1 => ⟨fun _ => h, by rw [hr]; simp⟩
theorem region_HF {id : Nat} {a : Act} {w : World} (hm : P.follows .mixedOrders = true) (h : anyHF F n P .any ops Q S ops.size (Array.replicate ops.size false) a w.drew) : (Code.region id ops true).wpIn F n P Q a w :=
  wpIn_region_any hm (anyHF.any _ _ _ _ h)
end
end Go.Proofs.YtfihlelhpmjpaaaGreatDoor

