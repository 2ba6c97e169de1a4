/- The columns of EVENODD: giving up, what is answered; a prime of the code. The columns of EVENODD: columns that came in; what belongs together. The columns of EVENODD: together. The columns of EVENODD: what is answered. The columns of EVENODD: columns under way. The columns of EVENODD: what is listed. The document's answers for EVENODD: few, right, the same. A region that draws its order, in a round: what only reads is taken first, where S holds behind every operation. The columns of EVENODD: Right. The columns of EVENODD: the cells of a row. The columns of EVENODD: lists of cells one behind the other. The columns of EVENODD: cells put upon one another, and upon those that are held. The columns of EVENODD: upon. The columns of EVENODD: a cell of the column of rows. The diagonals of EVENODD: the rows that a walk of one step back goes over. Columns read value by value, and the values that a diagonal goes over. -/
import Derived.Test.YtckfepmahjgmfaaDoorRRCA
import Derived.Test.YtckfepmahjgmfaaDoorRRSA
import Derived.OrdersIn
import Derived.OrdersHeld
import Derived.Lib.AppendZeros
import Derived.Laws.OwnMore
namespace Go.Proofs.YtckfepmahjgmfaaDoor.E
open Go.RowKit Go.Shelf Go.Proofs.YtckfepmahjgmfaaDoor.C
set_option linter.unusedSimpArgs false
set_option linter.unusedVariables false

set_option maxHeartbeats 400000 in
theorem need_yes (w : World) : Calls Tryd.prog 91 #[.bool true] w fun e w' => e = .returned (.tuple #[]) ∧ w = w' := by
  go_enter Tryd.func91, Tryd.ntmps91
  go_wp2
  go_end0
  exact ⟨rfl, rfl⟩
set_option maxHeartbeats 400000 in
theorem need_no (w : World) : Calls Tryd.prog 91 #[.bool false] w fun e w' => e = .panicked gaveUp ∧ w = w' := by
  go_enter Tryd.func91, Tryd.ntmps91
  go_wp2
  exact ⟨rfl, rfl, rfl⟩
set_option maxHeartbeats 400000 in
theorem sureI (n : Int) (w : World) : Calls Tryd.prog 104 #[.int .i64 n, .int .i64 0] w fun e w' => e = .returned (.int .i64 n) ∧ w = w' := by
  go_enter Tryd.func104, Tryd.ntmps104
  go_wp2
  go_ret
  exact ⟨rfl, rfl⟩
set_option maxHeartbeats 400000 in
theorem code_any (p : Int) (w : World) : Calls Tryd.prog 93 #[.int .i64 p] w fun e w' => e = .returned (.agg #[.int .i64 1, .int .i64 p]) ∧ Below w.heap.size w w' := by
  go_enter Tryd.func93, Tryd.ntmps93
  go_wp2
  have b := Blk.new w 120 #[.int .i64 1, .int .i64 p]
  have c0 := b.cell 0
  have c1 := b.cell 1
  simp only [List.getElem?_toArray, List.getElem?_cons_zero, List.getElem?_cons_succ] at c0 c1
  exact bodyPost_ret (v := .agg #[.int .i64 1, .int .i64 p]) (by simp [results, Tryd.results93, go_sem, c0, c1]) rfl ⟨rfl, below_one w _⟩
set_option maxHeartbeats 400000 in
theorem primeOf_yes (p : Int) (hR : RightC 1 p) (w : World) (hL : Laid w) : Calls Tryd.prog 71 #[.int .i64 p] w fun e w' => e = .returned (.int .i64 p) ∧ Below w.heap.size w w' := by
  have HC := Lib.hid (fun W hL => (shapeCheck_any 1 p W hL).mono fun e w' h => And.intro (h.1 hR) h.2.2)
  clear hR
  go_enter Tryd.func71, Tryd.ntmps71
  go_wp2_with (first
    | (go_at_call 93; refine (code_any p _).mono ?_; rintro e w1 ⟨rfl, hB1⟩; replace hL := hL.next hB1)
    | (go_at_call 92; refine (HC.out _ hL).mono ?_; rintro e w2 ⟨rfl, hB2⟩)
    | (go_at_call 91; refine (need_yes _).mono ?_; rintro e w3 ⟨rfl, rfl⟩))
  go_ret
  exact ⟨rfl, below_in hB1 hB2⟩
set_option maxHeartbeats 400000 in
theorem rows_any (p : Int) (hR : RightC 1 p) (w : World) (hL : Laid w) : Calls Tryd.prog 94 #[.int .i64 p] w fun e w' => e = .returned (.int .i64 (p - 1)) ∧ Below w.heap.size w w' := by
  have HC := Lib.hid (fun W hL => (shapeRows_any 1 p W hL).mono fun _ _ h => (⟨h.1 hR, h.2.2⟩ : _ ∧ _))
  clear hR
  go_enter Tryd.func94, Tryd.ntmps94
  go_wp2_with (first
    | (go_at_call 93; refine (code_any p _).mono ?_; rintro e w1 ⟨rfl, hB1⟩; replace hL := hL.next hB1)
    | (go_at_call 105; refine (HC.out _ hL).mono ?_; rintro e w2 ⟨rfl, hB2⟩)
    | (go_at_call 104; refine (sureI _ _).mono ?_; rintro e w3 ⟨rfl, rfl⟩))
  go_ret
  exact ⟨rfl, below_in hB1 hB2⟩
end Go.Proofs.YtckfepmahjgmfaaDoor.E

namespace Go.Proofs.YtckfepmahjgmfaaDoor.E
open Go.RowKit Go.Shelf Go.Proofs.YtckfepmahjgmfaaDoor.C
set_option linter.unusedSimpArgs false
set_option linter.unusedVariables false

/-- The slice value v reads as columns, below block B. -/
def Cols (B : Nat) (W : World) (v : Value) (css : List (List (List UInt8))) : Prop :=
  ∃ A cap, v = .slice A css.length cap ∧ css.length ≤ cap ∧ (0 < css.length → ∃ b off, A = some ⟨b, off, none⟩ ∧ b < B ∧
    ∀ j, j < css.length → ∃ u, W.cell? ⟨b, off + j, none⟩ = some u ∧ Many B W u (css[j]?.getD []))
section
variable {W W' : World} {B B' : Nat} {v : Value} {css : List (List (List UInt8))}
theorem Cols.keep (h : Cols B W v css) (hk : ∀ p : Addr, p.block < B → W'.cell? p = W.cell? p) : Cols B W' v css := by
  obtain ⟨A, cap, e, hc, hA⟩ := h
  refine ⟨A, cap, e, hc, fun hp => ?_⟩
  obtain ⟨b, off, e1, hb, hr⟩ := hA hp
  refine ⟨b, off, e1, hb, fun j hj => ?_⟩
  obtain ⟨u, hu, hm⟩ := hr j hj
  exact ⟨u, (hk ⟨b, off + j, none⟩ hb).trans hu, hm.keep hk⟩
theorem Cols.below (h : Cols B W v css) (hb : Below B W W') : Cols B W' v css := h.keep fun _ hp => hb.cell hp
theorem Cols.at_ (h : Cols B W v css) (h0 : 0 < css.length) : ∃ b off cap, v = .slice (some ⟨b, off, none⟩) css.length cap ∧ css.length ≤ cap ∧ b < B ∧ ∀ j, j < css.length → ∃ u, W.cell? ⟨b, off + j, none⟩ = some u ∧ Many B W u (css[j]?.getD []) := by
  obtain ⟨A, cap, rfl, hc, hA⟩ := h
  obtain ⟨b, off, rfl, hb, hr⟩ := hA h0
  exact ⟨b, off, cap, rfl, hc, hb, hr⟩
end

set_option maxRecDepth 100000 in
set_option maxHeartbeats 1000000 in
theorem areAlike_any {B B' : Nat} (v1 v2 : Value) (one : List UInt8) (ls : List (List UInt8)) (w : World) (h1 : Bytes B w v1 one) (hM : Many B' w v2 ls) (hls : ls.length ≤ 1000) (b : Bool) (hb : b = true ↔ (Cell one ∧ AllLen one.length ls)) :
    Calls Tryd.prog 95 #[v1, v2] w fun e w' => e = .returned (.bool b) ∧ Below w.heap.size w w' := by
  have HC := Lib.hid (C.check_any (B := B) v1 one w h1)
  obtain ⟨A, cap, rfl, _, _⟩ := id hM
  obtain ⟨A1, cap1, rfl, _, _⟩ := id h1
  have HB := Lib.hid hb
  clear hb
  obtain ⟨q, hq⟩ : ∃ q, one.length = q := ⟨_, rfl⟩
  have HQ := Lib.hid hq
  rw [hq] at HC HB ⊢
  clear hq h1
  go_enter Tryd.func95, Tryd.ntmps95
  go_wp2
  go_loop [9] (fun i => ∃ k : Nat, k ≤ ls.length ∧ i = .int .i64 k ∧ Hid (∀ j, j < k → (ls[j]?.getD []).length = q)) (fun i => ls.length - (intOf i).toNat)
  case atStart => exact ⟨0, Nat.zero_le _, rfl, Lib.hid fun j hj => absurd hj (by omega)⟩
  case round =>
    obtain ⟨k, hk, rfl, HA⟩ := hrel
    by_cases hlt : k < ls.length
    · have hdec : decide ((k : Int) < (ls.length : Int)) = true := by simp; omega
      obtain ⟨b1, off, rfl, hb1, hrow⟩ := many_at hM (by omega)
      obtain ⟨A2, cp, hc, hB2⟩ := hrow k hlt
      clear hrow hB2
      have HL : Hid ((ls[k]?.getD []).length = q → ∀ j, j < k + 1 → (ls[j]?.getD []).length = q) := by
        intro h j hj
        rcases Nat.lt_or_ge j k with h1 | h1
        · exact HA.out j h1
        · obtain rfl : j = k := by omega
          exact h
      have HM : Hid (¬ (ls[k]?.getD []).length = q → ¬ AllLen q ls) := fun h h2 => h (h2 k hlt)
      generalize (ls[k]?.getD []).length = qq at hc HL HM
      by_cases hln : qq = q
      · have HL2 := Lib.hid (HL.out hln)
        subst hln
        have hne : ((qq : Int) != (qq : Int)) = false := by simp
        go_wp2
        go_round
        case rel => exact ⟨k + 1, by omega, by go_num, HL2⟩
        case measure => simp [intOf]; omega
      · have hne : ((qq : Int) != (q : Int)) = true := by simp; omega
        have HF : Hid (b = false) := by
          unfold Hid
          rw [Bool.eq_false_iff]
          exact fun h => HM.out hln ((HB.out).1 h).2
        have hnq : ¬ (qq : Int) = (q : Int) := by omega
        go_wp2
        go_ret
        exact ⟨ret_bool HF.out.symm, Below.refl _ _⟩
    · obtain rfl : k = ls.length := by omega
      have e1 : decide ((ls.length : Int) < (ls.length : Int)) = false := by simp
      by_cases hce : Cell one
      · rw [if_pos hce] at HC
        have HF : Hid (b = true) := (HB.out).2 ⟨hce, HA.out⟩
        clear HB HA
        go_wp2_with (go_at_call 106; refine HC.out.mono ?_; rintro e w1 ⟨rfl, hB1⟩)
        go_ret
        exact ⟨ret_bool HF.out.symm, hB1⟩
      · rw [if_neg hce] at HC
        have HF : Hid (b = false) := by
          unfold Hid
          rw [Bool.eq_false_iff]
          exact fun h => hce ((HB.out).1 h).1
        clear HB HA
        go_wp2_with (go_at_call 106; refine HC.out.mono ?_; rintro e w1 ⟨rfl, hB1⟩)
        go_ret
        exact ⟨ret_bool HF.out.symm, hB1⟩
end Go.Proofs.YtckfepmahjgmfaaDoor.E

namespace Go.Proofs.YtckfepmahjgmfaaDoor.E
open Go.RowKit Go.Shelf Go.Proofs.YtckfepmahjgmfaaDoor.C
set_option linter.unusedSimpArgs false
set_option linter.unusedVariables false

/-- The first cell of the first column. -/
def firstC (css : List (List (List UInt8))) : List UInt8 := ((css[0]?.getD [])[0]?.getD [])
/-- Columns belong together, and have R rows. -/
def TogOk (R : Nat) (css : List (List (List UInt8))) : Prop := 0 < css.length ∧ ∀ j, j < css.length → (css[j]?.getD []).length = R ∧ (Cell (firstC css) ∧ AllLen (firstC css).length (css[j]?.getD []))

set_option maxRecDepth 100000 in
set_option maxHeartbeats 1000000 in
theorem together_yes {B : Nat} (p : Int) (R : Nat) (hR : RightC 1 p) (hr : p - 1 = (R : Int)) (v : Value) (css : List (List (List UInt8))) (w : World) (hL : Laid w) (hB : B ≤ w.heap.size) (hC : Cols B w v css) (hlen : css.length ≤ 1000) (hok : TogOk R css) :
    Calls Tryd.prog 72 #[.int .i64 p, v] w fun e w' => e = .returned (.agg #[.int .i64 p, v]) ∧ Below w.heap.size w w' := by
  have HRw := Lib.hid (fun W hL => rows_any p hR W hL)
  rw [hr] at HRw
  have hR2 : 2 ≤ R := by have := hR.und.p1; omega
  have hR3 : R ≤ 16 := by have := hR.und.p2; omega
  obtain ⟨b0, off0, cap, rfl, hcap, hb0, hrow⟩ := hC.at_ hok.1
  have HRow := Lib.hid hrow
  have HOK := Lib.hid hok.2
  have hl0 := hok.1
  clear hr hR hC hrow hok
  go_enter Tryd.func72, Tryd.ntmps72
  have hBz := below_one w (.cells #[.int .i64 0, .slice none 0 0] 95)
  have bz := Blk.new w 95 #[.int .i64 0, .slice none 0 0]
  have hL1 := hL.next hBz
  have hd0 : decide (0 < (css.length : Int)) = true := by simp; omega
  go_wp2_with (go_at_call 91; refine (need_yes _).mono ?_; rintro e w3 ⟨rfl, rfl⟩)
  refine (HRw.out _ hL1).mono ?_
  rintro e w1 ⟨rfl, hB1⟩
  replace bz := bz.below hB1 bz.lt
  have hBw := below_in hBz hB1
  clear hBz hB1 hL1 HRw hL
  obtain ⟨u0, hu0, hm0⟩ := HRow.out 0 hl0
  have hlen0 := (HOK.out 0 hl0).1
  obtain ⟨A0, cap0, rfl, hcap0, _⟩ := id hm0
  obtain ⟨b1, off1, rfl, hb1, hrow1⟩ := many_at hm0 (by rw [hlen0]; omega)
  clear hm0 hcap0
  obtain ⟨c0v, hc0, hbc0⟩ := (by
    obtain ⟨A9, cp9, hc9, hB9⟩ := hrow1 0 (by rw [hlen0]; omega)
    exact ⟨_, hc9, hB9⟩ : ∃ c0v, w.cell? ⟨b1, off1 + 0, none⟩ = some c0v ∧ Bytes B w c0v (firstC css))
  rw [hlen0, Nat.add_zero] at hu0
  rw [Nat.add_zero] at hc0
  clear hrow1
  go_wp2
  go_loopw [16] (fun i wr => ∃ k : Nat, k ≤ css.length ∧ i = .int .i64 k ∧ Blk wr w.heap.size 95 #[.int .i64 0, .slice none 0 0] ∧ Below w.heap.size w wr) (fun i _ => css.length - (intOf i).toNat)
  case atStart => exact ⟨0, Nat.zero_le _, rfl, bz, hBw⟩
  case round =>
    clear bz hBw
    obtain ⟨k, hk, rfl, bz, hBr⟩ := hrel
    by_cases hlt : k < css.length
    · have hdec : decide ((k : Int) < (css.length : Int)) = true := by simp; omega
      obtain ⟨u, hu, hmu⟩ := HRow.out k hlt
      obtain ⟨hlk, hce, hal⟩ := HOK.out k hlt
      obtain ⟨Au, capu, rfl, _, _⟩ := id hmu
      have HA0 := areAlike_any c0v (.slice Au (css[k]?.getD []).length capu) (firstC css) (css[k]?.getD []) wr (hbc0.below (hBr.mono hB)) (hmu.below (hBr.mono hB)) (by omega) true (by simp [hce, hal])
      rw [hlk] at hu HA0
      have HA := Lib.hid HA0
      clear HA0
      have x0 : wr.cell? ⟨b0, off0, none⟩ = some (.slice (some ⟨b1, off1, none⟩) R cap0) := (hBr.cell (p := ⟨b0, off0, none⟩) (by exact Nat.lt_of_lt_of_le hb0 hB)).trans hu0
      have xk : wr.cell? ⟨b0, off0 + k, none⟩ = some (.slice Au R capu) := (hBr.cell (p := ⟨b0, off0 + k, none⟩) (by exact Nat.lt_of_lt_of_le hb0 hB)).trans hu
      have y0 : wr.cell? ⟨b1, off1, none⟩ = some c0v := (hBr.cell (p := ⟨b1, off1, none⟩) (by exact Nat.lt_of_lt_of_le hb1 hB)).trans hc0
      have hRR : ((R : Int) == (R : Int)) = true := by simp
      have i1 : (0 : Int) < (R : Int) := by omega
      have i2 : (0 : Int) < (css.length : Int) := by omega
      go_wp2_with (first
        | (go_at_call 95; refine HA.out.mono ?_; rintro e w4 ⟨rfl, hB4⟩)
        | (go_at_call 91; refine (need_yes _).mono ?_; rintro e w3 ⟨rfl, rfl⟩))
      go_roundw
      case rel => exact ⟨k + 1, by omega, by go_num, bz.below hB4 bz.lt, below_in hBr hB4⟩
      case measure => simp [intOf]; omega
    · obtain rfl : k = css.length := by omega
      have e1 : decide ((css.length : Int) < (css.length : Int)) = false := by simp
      have g0 := bz.cell 0
      have g1 := bz.cell 1
      have f0 := bz.frozen 0
      have f1 := bz.frozen 1
      simp only [List.getElem?_toArray, List.getElem?_cons_zero, List.getElem?_cons_succ] at g0 g1
      go_wp2
      have r := (bz.set_ 0 (.int .i64 p)).set_ 1 (.slice (some ⟨b0, off0, none⟩) css.length cap)
      have r0 := r.cell 0
      have r1 := r.cell 1
      simp only [List.setIfInBounds_toArray, List.set_cons_zero, List.set_cons_succ, List.getElem?_toArray, List.getElem?_cons_zero, List.getElem?_cons_succ] at r0 r1
      exact bodyPost_ret (v := .agg #[.int .i64 p, .slice (some ⟨b0, off0, none⟩) css.length cap]) (by simp [results, Tryd.results72, go_sem, r0, r1]) rfl ⟨rfl, (hBr.setCell (by simp) _).setCell (by simp) _⟩

end Go.Proofs.YtckfepmahjgmfaaDoor.E

namespace Go.Proofs.YtckfepmahjgmfaaDoor.E
open Go.RowKit Go.Shelf Go.Proofs.YtckfepmahjgmfaaDoor.C
set_option linter.unusedSimpArgs false
set_option linter.unusedVariables false

theorem BytesP.imp {P Q : Nat → Prop} {W : World} {v : Value} {l : List UInt8} (h : BytesP P W v l) (hq : ∀ b, P b → Q b) : BytesP Q W v l := by
  obtain ⟨A, cap, e, hc, hA⟩ := h
  refine ⟨A, cap, e, hc, fun hp => ?_⟩
  obtain ⟨b, off, e2, hb, hcell⟩ := hA hp
  exact ⟨b, off, e2, hq b hb, hcell⟩
theorem BytesP.below {N : Nat} {P : Nat → Prop} {W W' : World} {v : Value} {l : List UInt8} (h : BytesP P W v l) (hP : ∀ b, P b → b < N) (hb : Below N W W') : BytesP P W' v l := h.keep fun b hp => hb.block b (hP b hp)
/-- A list of cells, in blocks of which P speaks. -/
def ManyP (P : Nat → Prop) (W : World) (v : Value) (ls : List (List UInt8)) : Prop :=
  ∃ A cap, v = .slice A ls.length cap ∧ ls.length ≤ cap ∧ (0 < ls.length → ∃ b off, A = some ⟨b, off, none⟩ ∧ P b ∧ ∀ j, j < ls.length → ∃ u, W.cell? ⟨b, off + j, none⟩ = some u ∧ BytesP P W u (ls[j]?.getD []))

theorem ManyP.many {P : Nat → Prop} {N : Nat} {W : World} {v : Value} {ls : List (List UInt8)} (h : ManyP P W v ls) (hP : ∀ b, P b → b < N) : Many N W v ls := by
  obtain ⟨A, cap, e, hc, hA⟩ := h
  refine ⟨A, cap, e, hc, fun hp => ?_⟩
  obtain ⟨b, off, e2, hb, hcell⟩ := hA hp
  exact ⟨b, off, e2, hP b hb, fun j hj => by obtain ⟨u, h1, h2⟩ := hcell j hj; exact ⟨u, h1, BytesP.imp h2 hP⟩⟩
end Go.Proofs.YtckfepmahjgmfaaDoor.E

namespace Go.Proofs.YtckfepmahjgmfaaDoor.E
open Go.RowKit Go.Shelf Go.Proofs.YtckfepmahjgmfaaDoor.C
set_option linter.unusedSimpArgs false
set_option linter.unusedVariables false

def RightD (p : Int) (css : List (List (List UInt8))) : Prop := p ∈ prm ∧ TogOk (p - 1).toNat css
def GoodC (R n : Nat) (cs : List (List UInt8)) : Prop := cs.length = R ∧ ∀ r, r < R → Cell (cs[r]?.getD []) ∧ (cs[r]?.getD []).length = n
theorem rightD_iff {p : Int} {css : List (List (List UInt8))} (hp : p ∈ prm) (h0 : 0 < css.length) : RightD p css ↔ ∀ j, j < css.length → GoodC (p - 1).toNat (firstC css).length (css[j]?.getD []) := by
  have hpp := prm_bounds hp
  constructor
  · rintro ⟨_, _, h⟩ j hj
    obtain ⟨h1, h2, h3⟩ := h j hj
    refine ⟨h1, fun r hr => ?_⟩
    have h4 := h3 r (by omega)
    refine ⟨?_, h4⟩
    unfold Cell at h2 ⊢
    omega
  · intro h
    refine ⟨hp, h0, fun j hj => ⟨(h j hj).1, ((h 0 h0).2 0 (by omega)).1, fun r hr => ((h j hj).2 r (by have := (h j hj).1; omega)).2⟩⟩
end Go.Proofs.YtckfepmahjgmfaaDoor.E

namespace Go.Proofs.YtckfepmahjgmfaaDoor
open Go.RowKit Go.Shelf
set_option linter.unusedVariables false
set_option linter.unusedSimpArgs false

/-- Whatever order is picked from here on, S holds behind each operation. -/
def anyHF (F : Fence) (n : Nat) (P : Program) (md : Region.Mode) (ops : Array Oper) (Q : Exit → Act → World → Prop) (S : World → Prop) : Nat → Array Bool → Act → World → Prop
  | 0, listed, a, w => Region.ready md ops listed = [] ∧ Q .normal a w
  | k + 1, listed, a, w => (Region.ready md ops listed = [] → Q .normal a w) ∧ ∀ i ∈ Region.ready md ops listed, wpOpIn F n P ops Q i (fun a' w' => S w' ∧ anyHF F n P md ops Q S k (listed.setIfInBounds i true) a' w') a w
section
variable {F : Fence} {n : Nat} {P : Program} {md : Region.Mode} {ops : Array Oper} {Q : Exit → Act → World → Prop} {S : World → Prop}
theorem anyHF.any : ∀ (k : Nat) (listed : Array Bool) (a : Act) (w : World), anyHF F n P md ops Q S k listed a w → wpAnyIn F n P md ops Q k listed a w
  | 0, _, _, _, h => h
  | k + 1, _, _, _, h => ⟨h.1, fun i hi => wpOpIn_mono (fun a' w' h' => anyHF.any k _ a' w' h'.2) (h.2 i hi)⟩
/-- o leaves v, in whatever world that S holds in, and calls nothing. -/
def Leaves (P : Program) (ops : Array Oper) (S : World → Prop) (o : Oper) (v : Value) (a : Act) : Prop := YieldsIf P ops S o v a ∧ ∀ w, o.about P w a.eval = none
theorem Leaves.op {i : Nat} {o : Oper} {v : Value} {a : Act} (hnd : notDefer o.op = true) (hi : ops[i]? = some o) (hy : Leaves P ops S o v a) {K : Act → World → Prop} {w : World} (hS : S w) (h : K (a.put o.dst v) w) : wpOpIn F n P ops Q i K a w := by
  unfold Go.wpOpIn
  simp only [hi]
  have hab : ∀ f, o.about P w a.eval = some f → F.fn f := fun f hf => by rw [hy.2 w] at hf; cases hf
  rcases hy.1 with ⟨hw, hv⟩ | ⟨hw, rfl⟩
  · simp only [hw, if_true, Oper.wpIn]
    rw [Oper.semAt_plain _ _ _ (notDefer_ne hnd), hv w hS]
    exact ⟨hab, h⟩
  · simp only [hw, Bool.false_eq_true, if_false]; exact ⟨hab, h⟩
theorem Leaves.put {j : Nat} {oi oj : Oper} {v : Value} (hnd : notDefer oj.op = true) (hj : ops[j]? = some oj) (hap : oi.apart ops oj = true)
    (hsi : ∀ cs b, oi.op ≠ .select cs b) (hsj : ∀ cs b, oj.op ≠ .select cs b) (hQ : ∀ c a w, Q (.panic c) (a.put oi.dst v) w → Q (.panic c) a w) {K : Act → World → Prop} {a : Act} {w : World}
    (hy : Leaves P ops S oi v a) (h : wpOpIn F n P ops Q j K (a.put oi.dst v) w) : wpOpIn F n P ops Q j (fun a' w' => Leaves P ops S oi v a' ∧ K (a'.put oi.dst v) w') a w := by
  obtain ⟨h1, h2, h3⟩ := Oper.apart_spec hap
  have keep : ∀ u, Leaves P ops S oi v (a.put oj.dst u) := fun u =>
    ⟨hy.1.of_same (execOp_put oi hsi a oj.dst u h3) (wanted_put oi a oj.dst u h3), fun w => (about_put oi w a oj.dst u h3).trans (hy.2 w)⟩
  unfold wpOpIn at *
  simp only [hj] at *
  rw [wanted_put oj a oi.dst v h1, about_put oj w a oi.dst v h1] at h
  split
  · rename_i hw
    simp only [hw, if_true] at h
    unfold Oper.wpIn at *
    rw [about_put oj w a oi.dst v h1, Oper.semAt_plain _ _ _ (notDefer_ne hnd), execOp_put oj hsj a oi.dst v h1] at h
    rw [Oper.semAt_plain _ _ _ (notDefer_ne hnd)]
    obtain ⟨hab, h⟩ := h
    refine ⟨hab, ?_⟩
    clear hab
    generalize (execOp a.eval oj).run P w = r at *
    cases r with
    | ok x w' =>
      cases x <;> simp only [Oper.uponIn] at h ⊢
      case value u => exact ⟨keep u, by rw [← Act.put_comm a v u h2]; exact h⟩
      case skip => exact ⟨keep _, by rw [← Act.put_comm a v undef h2]; exact h⟩
      case defer d =>
        refine ⟨⟨hy.1.of_same (execOp_put oi hsi { a with defers := d :: a.defers } oj.dst undef h3) (wanted_put oi { a with defers := d :: a.defers } oj.dst undef h3), fun w => (about_put oi w { a with defers := d :: a.defers } oj.dst undef h3).trans (hy.2 w)⟩, ?_⟩
        rw [← Act.put_comm _ v undef h2, ← Act.put_defers]
        exact h
      case enter f args =>
        refine ⟨h.1, CallsIn.mono h.2 fun e w'' he => ?_⟩
        cases e with
        | returned u => exact ⟨keep u, by rw [← Act.put_comm a v u h2]; exact he⟩
        | panicked c => exact hQ _ _ _ he
        | outgrown => exact he
      case row row args => exact ⟨h.1, RowsIn.mono h.2 fun u w'' he => ⟨keep u, by rw [← Act.put_comm a v u h2]; exact he⟩⟩
      case round l f tmps assign body =>
        refine ⟨h.1, RoundIn.mono h.2 fun e w'' he => ?_⟩
        cases e with
        | returned u => exact ⟨keep u, by rw [← Act.put_comm a v u h2]; exact he⟩
        | panicked c => exact hQ _ _ _ he
        | outgrown => exact he
    | halt x w' =>
      cases x <;> simp only [Oper.uponIn] at h ⊢
      case panic u => exact hQ _ _ _ h
  · rename_i hw
    simp only [hw] at h
    exact ⟨h.1, keep _, by rw [← Act.put_comm a v undef h2]; exact h.2⟩
theorem anyHF_first {i : Nat} {oi : Oper} {v : Value} (hnd : ∀ (i : Nat) (o : Oper), ops[i]? = some o → notDefer o.op = true) (hi : ops[i]? = some oi) (hsel : ∀ (j : Nat) (o : Oper) cs b, ops[j]? = some o → o.op ≠ .select cs b)
    (hQ : ∀ c a w, Q (.panic c) (a.put oi.dst v) w → Q (.panic c) a w) :
    ∀ (k : Nat) (listed : Array Bool) (a : Act) (w : World),
      (∀ j oj, ops[j]? = some oj → j ≠ i → listed.getD j true = false → (∀ e ∈ oj.after, Region.binds md e = true → e.on ≠ i) → oi.apart ops oj = true) →
      i ∈ Region.ready md ops listed → Leaves P ops S oi v a → S w →
      anyHF F n P md ops Q S k (listed.setIfInBounds i true) (a.put oi.dst v) w → anyHF F n P md ops Q S (k + 1) listed a w := by
  intro k
  induction k with
  | zero =>
    intro listed a w _ hr hy hS H
    refine ⟨fun h => (by rw [h] at hr; cases hr), fun j hj => ?_⟩
    by_cases hji : j = i
    · subst hji; exact hy.op (hnd _ _ hi) hi hS ⟨hS, H⟩
    · have := ready_mono hj hji
      rw [H.1] at this
      cases this
  | succ k ih =>
    intro listed a w hfree hr hy hS H
    refine ⟨fun h => (by rw [h] at hr; cases hr), fun j hj => ?_⟩
    by_cases hji : j = i
    · subst hji; exact hy.op (hnd _ _ hi) hi hS ⟨hS, H⟩
    · have h1 := H.2 j (ready_mono hj hji)
      obtain ⟨hjun, oj, hoj, hall⟩ := mem_ready.1 hj
      have hnot : ∀ e ∈ oj.after, Region.binds md e = true → e.on ≠ i := fun e he hb heq => by
        have h1 := hall e he hb
        have h0 := (mem_ready.1 hr).1
        rw [heq] at h1
        rcases Nat.lt_or_ge i listed.size with h' | h'
        · simp [h'] at h0 h1; rw [h0] at h1; cases h1
        · simp [Array.getElem?_eq_none h'] at h1
      have h2 := Leaves.put (hnd _ _ hoj) hoj (hfree j oj hoj hji hjun hnot) (fun cs b => hsel i oi cs b hi) (fun cs b => hsel j oj cs b hoj) hQ hy h1
      refine wpOpIn_mono (fun a' w' h3 => ⟨h3.2.1, ih (listed.setIfInBounds j true) a' w' (fun x ox hx hxi hun hno => hfree x ox hx hxi ?_ hno) (ready_mono hr (Ne.symm hji)) h3.1 h3.2.1 ?_⟩) h2
      · by_cases hjx : j = x
        · subst hjx; exact hjun
        · rw [getD_set_ne true hjx] at hun; exact hun
      · rw [Array.setIfInBounds_comm _ _ hji]
        exact h3.2.2
theorem anyHF_take {i : Nat} {oi : Oper} {d : Tmp} {v : Value} {k : Nat} {listed : Array Bool} {a : Act} {w : World} (hnd : (ops.toList.all fun o => notDefer o.op) = true) (hi : ops[i]? = some oi)
    (hs : Region.noSelect ops = true) (hf : Region.free md ops listed i = true) (hr : (Region.ready md ops listed).contains i = true) (hd : oi.dst = some d)
    (hQ : ∀ c a w, Q (.panic c) (a.put oi.dst v) w → Q (.panic c) a w) (hy : Leaves P ops S oi v a) (hS : S w)
    (h : anyHF F n P md ops Q S k (listed.setIfInBounds i true) { tmps := a.tmps.setIfInBounds d v, defers := a.defers } w) : anyHF F n P md ops Q S (k + 1) listed a w :=
  anyHF_first (all_nd hnd) hi (Region.noSelect_spec hs) hQ k listed a w (Region.free_spec hi hf) (by simpa using hr) hy hS (by unfold Act.put; rw [hd]; exact h)
theorem anyHF_one {i : Nat} {o : Oper} {k : Nat} {listed : Array Bool} {a : Act} {w : World} (hr : Region.ready md ops listed = [i]) (ho : ops[i]? = some o) (hnd : (ops.toList.all fun o => notDefer o.op) = true) (hw : Region.wanted o (yielded ops a.tmps) = true)
    (h : Oper.wpIn F n P o a w (fun a' w' => S w' ∧ anyHF F n P md ops Q S k (listed.setIfInBounds i true) a' w') Q) : anyHF F n P md ops Q S (k + 1) listed a w :=
  ⟨fun h0 => (by rw [hr] at h0; cases h0), fun j hj => by
    rw [hr] at hj
    obtain rfl := List.mem_singleton.1 hj
    unfold wpOpIn
    rw [ho]
    simp only [hw, if_true]
    exact h⟩
theorem anyHF_done {listed : Array Bool} {a : Act} {w : World} (hr : Region.ready md ops listed = []) (h : Q .normal a w) : ∀ k, anyHF F n P md ops Q S k listed a w
  | 0 => ⟨hr, h⟩
  | _ + 1 => ⟨fun _ => h, by rw [hr]; simp⟩
theorem region_HF {id : Nat} {a : Act} {w : World} (hm : P.follows .mixedOrders = true) (h : anyHF F n P .any ops Q S ops.size (Array.replicate ops.size false) a w.drew) : (Code.region id ops true).wpIn F n P Q a w :=
  wpIn_region_any hm (anyHF.any _ _ _ _ h)
end
end Go.Proofs.YtckfepmahjgmfaaDoor

namespace Go.Proofs.YtckfepmahjgmfaaDoor.E
open Go.RowKit Go.Shelf Go.Proofs.YtckfepmahjgmfaaDoor.C
set_option linter.unusedSimpArgs false
set_option linter.unusedVariables false
attribute [local go_sem] Oper.semAt_some


/-- What is answered when nothing gave up. -/
theorem idle_K (p : Addr) (w : World) :
    CallsD Tryd.prog 90 #[.pointer (some p)] .returning w fun e u' w' => e = .returned (.tuple #[]) ∧ u' = .returning ∧ w' = w := by
  have hta := assert_errno
  refine callsD_of_wpS Tryd.func90 rfl fun c₀ cs hu => ?_
  simp only [Tryd.ntmps90, List.size_toArray, List.length_cons, List.length_nil, Nat.reduceAdd, Nat.reduceSub, Array.replicate_succ, Array.replicate_zero, List.push_toArray, List.append_toArray, List.nil_append, List.cons_append]
  apply wpS_seq
  apply wpS_region
  simp [wpOpsS, go_sem, recoverD, hu, Exit.thenS]
  all_goals (refine wpS_of_wp ?_; go_wp2; cases c₀; simp_all [bodyPostS, results, Tryd.results90])
theorem two_blks (w : World) {w1 : World} (hB1 : Below ((w.alloc (.cells #[.int .i64 0, .slice none 0 0] 95)).alloc (.cells #[.int .i64 0] 29)).heap.size ((w.alloc (.cells #[.int .i64 0, .slice none 0 0] 95)).alloc (.cells #[.int .i64 0] 29)) w1) : Blk w1 w.heap.size 95 #[.int .i64 0, .slice none 0 0] ∧ Blk w1 (w.heap.size + 1) 29 #[.int .i64 0] :=
  ⟨((Blk.new w _ _).alloc _).below hB1 (by simp; omega), (Blk.second w _ _ _).below hB1 (by simp)⟩
set_option maxHeartbeats 1000000 in
theorem ans_K_yes (f : Nat) (caps : Array Value) (w : World) (p : Int) (A : Option Addr) (n c : Nat) (hent : ∀ W, (callFunc f caps).run Tryd.prog W = .ok (.enter f caps) W)
    (h : ∀ W, Below w.heap.size w W → Calls Tryd.prog f caps W fun e w' => e = .returned (.agg #[.int .i64 p, .slice A n c]) ∧ Below W.heap.size W w') :
    Calls Tryd.prog 69 #[.func (.func f) #[] caps] w fun e w' => e = .returned (.tuple #[.agg #[.int .i64 p, .slice A n c], .int .i64 0]) ∧ Below w.heap.size w w' := by
  have hmf : ∀ (fn : Fn) (first cap : Array Value) (w : World), (Instr.makeFunc fn first cap).run Tryd.prog w = .ok (.func fn first cap) w := fun _ _ _ _ => rfl
  have hBa := below_two w (.cells #[.int .i64 0, .slice none 0 0] 95) (.cells #[.int .i64 0] 29)
  have h1 := h _ hBa
  clear h
  go_enter_defers Tryd.func69, Tryd.ntmps69
  go_wp2
  refine h1.mono ?_
  rintro e w1 ⟨rfl, hB1⟩
  obtain ⟨b0, b1⟩ := two_blks w hB1
  have c0 := b0.cell 0
  have c1 := b0.cell 1
  have c2 := b1.cell 0
  have f0 := b0.frozen 0
  have f1 := b0.frozen 1
  have f2 := b1.frozen 0
  simp only [List.getElem?_toArray, List.getElem?_cons_zero, List.getElem?_cons_succ] at c0 c1 c2
  have hBw := below_in hBa hB1
  go_wp2
  obtain ⟨ww, hww⟩ : ∃ ww, ((w1.setCell ⟨w.heap.size, 0, none⟩ (.int .i64 p)).setCell ⟨w.heap.size, 1, none⟩ (.slice A n c)).setCell ⟨w.heap.size + 1, 0, none⟩ (.int .i64 0) = ww := ⟨_, rfl⟩
  have d0 : Blk ww w.heap.size 95 #[.int .i64 p, .slice A n c] := by
    rw [← hww]
    exact Blk.far ((b0.set_ 0 (.int .i64 p)).set_ 1 (.slice A n c)) (by simp) _
  have d1 : Blk ww (w.heap.size + 1) 29 #[.int .i64 0] := by
    rw [← hww]
    exact (Blk.far (Blk.far b1 (by simp) _) (by simp) _).set_ 0 (.int .i64 0)
  have hBz : Below w.heap.size w ww := by
    rw [← hww]
    exact ((hBw.setCell (Nat.le_refl _) _).setCell (Nat.le_refl _) _).setCell (Nat.le_succ _) _
  rw [hww]
  have e0 := d0.cell 0
  have e1 := d0.cell 1
  have e2 := d1.cell 0
  simp only [List.getElem?_toArray, List.getElem?_cons_zero, List.getElem?_cons_succ] at e0 e1 e2
  refine leaves_cons (f := 90) (args := #[.pointer (some ⟨w.heap.size + 1, 0, none⟩)]) (by simp) (by simp [go_sem]) ?_
  refine (idle_K ⟨w.heap.size + 1, 0, none⟩ _).mono ?_
  rintro e u' w'' ⟨rfl, rfl, rfl⟩
  simp [Go.Leaves, settle, results, Tryd.results69, go_sem, e0, e1, e2]
  exact hBz
def Gave (U : World) : Exit → Act → World → Prop := fun e a w' => e = .panic gaveUp ∧ a.defers = [] ∧ Below U.heap.size U w'
theorem enter_right1 : ∀ args W, (callFunc 70 args).run Tryd.prog W = .ok (.enter 70 args) W := enters_of Tryd.func70 (by kernel_rfl) rfl

set_option maxRecDepth 100000 in
set_option maxHeartbeats 1000000 in
theorem right_yes {B : Nat} (p : Int) (v : Value) (css : List (List (List UInt8))) (w : World) (hL : Laid w) (hB : B ≤ w.heap.size) (hC : Cols B w v css) (hlen : css.length ≤ 1000) (hok : RightD p css) :
    Calls Tryd.prog 50 #[.int .i64 p, v] w fun e w' => e = .returned (.bool true) ∧ Below w.heap.size w w' := by
  obtain ⟨A, cap, rfl, _, _⟩ := id hC
  obtain ⟨W2, hW2⟩ : ∃ W2, (w.alloc (.cells #[.int .i64 p] 3)).alloc (.cells #[.slice A css.length cap] 25) = W2 := ⟨_, rfl⟩
  have b0 : Blk W2 w.heap.size 3 #[.int .i64 p] := by rw [← hW2]; exact (Blk.new w _ _).alloc _
  have b1 : Blk W2 (w.heap.size + 1) 25 #[.slice A css.length cap] := by rw [← hW2]; exact Blk.second w _ _ _
  have hBW : Below w.heap.size w W2 := by rw [← hW2]; exact below_two w _ _
  have hL2 := hL.next hBW
  have hpp := prm_bounds hok.1
  have hR : RightC 1 p := ⟨by omega, hok.1⟩
  have hr : p - 1 = (((p - 1).toNat : Nat) : Int) := by omega
  have HA := Lib.hid (ans_K_yes 70 #[.pointer (some ⟨w.heap.size, 0, none⟩), .pointer (some ⟨w.heap.size + 1, 0, none⟩)] W2 p A css.length cap (enter_right1 _) (fun U hU => by
    have hLU := hL2.next hU
    have hBU := below_in hBW hU
    have hCU := hC.below (hBU.mono hB)
    have HPP := Lib.hid (fun (V : World) (hV : Below U.heap.size U V) => primeOf_yes p hR V (hLU.next hV))
    have HT := Lib.hid (fun (V : World) (hV : Below U.heap.size U V) => together_yes (B := B) p _ hR hr (.slice A css.length cap) css V (hLU.next hV) (Nat.le_trans hB (Nat.le_trans hBU.size hV.size)) (hCU.below (hV.mono (Nat.le_trans hB hBU.size))) hlen hok.2)
    have c0 := (b0.below hU b0.lt).one
    have c1 := (b1.below hU b1.lt).one
    have hSS := Lib.hid (fun (V : World) (hV : Below U.heap.size U V) => (⟨(hV.cell (p := ⟨w.heap.size, 0, none⟩) (b0.below hU b0.lt).lt).trans c0, (hV.cell (p := ⟨w.heap.size + 1, 0, none⟩) (b1.below hU b1.lt).lt).trans c1⟩ : (fun V : World => V.cell? ⟨w.heap.size, 0, none⟩ = some (.int .i64 p) ∧ V.cell? ⟨w.heap.size + 1, 0, none⟩ = some (.slice A css.length cap)) V))
    clear hC hCU hok hW2 hL hL2 hLU hlen hr hR hpp b0 b1
    generalize css.length = n at *
    have bz := Blk.new U 95 #[.int .i64 0, .slice none 0 0]
    have hBz := below_one U (.cells #[.int .i64 0, .slice none 0 0] 95)
    refine (callsIn_wide (n := 9)).1 ?_
    refine callsIn_of_wp_marks Tryd.func70 rfl trivial ?_ rfl
    simp only [Tryd.ntmps70, List.size_toArray, List.length_cons, List.length_nil, Nat.reduceAdd, Nat.reduceSub, Array.replicate_succ, Array.replicate_zero, List.push_toArray, List.append_toArray, List.nil_append, List.cons_append]
    gi_wp2_with fail
    have hS : (fun V : World => V.cell? ⟨w.heap.size, 0, none⟩ = some (.int .i64 p) ∧ V.cell? ⟨w.heap.size + 1, 0, none⟩ = some (.slice A n cap)) (U.alloc (.cells #[.int .i64 0, .slice none 0 0] 95)).drew := hSS.out _ hBz.drew
    refine wpIn_mono (region_HF (Q := NoPanic _) (S := (fun V : World => V.cell? ⟨w.heap.size, 0, none⟩ = some (.int .i64 p) ∧ V.cell? ⟨w.heap.size + 1, 0, none⟩ = some (.slice A n cap))) (by kernel_rfl) ?_) NoPanic.imp
    refine anyHF_take (i := 0) (d := 3) (v := .int .i64 p) (by kernel_rfl) rfl (by kernel_rfl) (by kernel_rfl) (by kernel_rfl) rfl (fun _ _ _ h => h) ⟨Or.inl ⟨by rfl, fun w hS => by obtain ⟨h0, h1⟩ := hS; go_simp⟩, fun _ => rfl⟩ hS ?_
    simp only [List.setIfInBounds_toArray, List.set_cons_zero, List.set_cons_succ]
    refine anyHF_take (i := 2) (d := 5) (v := .slice A n cap) (by kernel_rfl) rfl (by kernel_rfl) (by kernel_rfl) (by kernel_rfl) rfl (fun _ _ _ h => h) ⟨Or.inl ⟨by rfl, fun w hS => by obtain ⟨h0, h1⟩ := hS; go_simp⟩, fun _ => rfl⟩ hS ?_
    simp only [List.setIfInBounds_toArray, List.set_cons_zero, List.set_cons_succ]
    refine anyHF_one (i := 1) (by kernel_rfl) rfl (by kernel_rfl) (by rfl) ?_
    gi_wp2_with fail
    refine ⟨trivial, (callsIn_wide.2 (HPP.out _ hBz.drew)).mono ?_⟩
    rintro e w1 ⟨rfl, hB1⟩
    replace hB1 := below_undrew hB1
    replace bz := bz.below hB1 bz.lt
    replace hBz := below_in hBz hB1
    clear hS
    have hS : (fun V : World => V.cell? ⟨w.heap.size, 0, none⟩ = some (.int .i64 p) ∧ V.cell? ⟨w.heap.size + 1, 0, none⟩ = some (.slice A n cap)) w1 := hSS.out _ hBz
    gi_wp2
    try (refine ⟨hS, ?_⟩)
    refine anyHF_one (i := 3) (by kernel_rfl) rfl (by kernel_rfl) (by rfl) ?_
    gi_wp2_with fail
    refine ⟨trivial, (callsIn_wide.2 (HT.out _ hBz)).mono ?_⟩
    rintro e w2 ⟨rfl, hB2⟩
    replace bz := bz.below hB2 bz.lt
    replace hBz := below_in hBz hB2
    clear hS
    have hS : (fun V : World => V.cell? ⟨w.heap.size, 0, none⟩ = some (.int .i64 p) ∧ V.cell? ⟨w.heap.size + 1, 0, none⟩ = some (.slice A n cap)) w2 := hSS.out _ hBz
    gi_wp2
    try (refine ⟨hS, ?_⟩)
    refine anyHF_one (i := 4) (by kernel_rfl) rfl (by kernel_rfl) (by rfl) ?_
    have g0 := bz.cell 0
    have g1 := bz.cell 1
    have f0 := bz.frozen 0
    have f1 := bz.frozen 1
    simp only [List.getElem?_toArray, List.getElem?_cons_zero, List.getElem?_cons_succ] at g0 g1
    gi_wp2
    have r := (bz.set_ 0 (.int .i64 p)).set_ 1 (.slice A n cap)
    have hBf := (hBz.setCell (p := ⟨U.heap.size, 0, none⟩) (Nat.le_refl _) (.int .i64 p)).setCell (p := ⟨U.heap.size, 1, none⟩) (Nat.le_refl _) (.slice A n cap)
    clear hS
    have hS : (fun V : World => V.cell? ⟨w.heap.size, 0, none⟩ = some (.int .i64 p) ∧ V.cell? ⟨w.heap.size + 1, 0, none⟩ = some (.slice A n cap)) _ := hSS.out _ hBf
    refine ⟨hSS.out _ (hBz.setCell (p := ⟨U.heap.size, 0, none⟩) (Nat.le_refl _) (.int .i64 p)), ?_⟩
    refine anyHF_done (by kernel_rfl) ?_ _
    refine NoPanic.normal ?_
    have r0 := r.cell 0
    have r1 := r.cell 1
    simp only [List.setIfInBounds_toArray, List.set_cons_zero, List.set_cons_succ, List.getElem?_toArray, List.getElem?_cons_zero, List.getElem?_cons_succ] at r0 r1
    gi_wp2
    exact ⟨.agg #[.int .i64 p, .slice A n cap], by simp [results, Tryd.results70, go_sem, r0, r1], rfl, hBf⟩))
  clear hC b0 b1 hL2 hok hlen hr hR hpp
  generalize css.length = n at *
  go_enter Tryd.func50, Tryd.ntmps50
  have hmf : ∀ (fn : Fn) (first cap : Array Value) (w : World), (Instr.makeFunc fn first cap).run Tryd.prog w = .ok (.func fn first cap) w := fun _ _ _ _ => rfl
  go_wp2_with (go_at_call 69; refine HA.out.mono ?_; rintro e w1 ⟨rfl, hB1⟩)
  go_ret
  exact ⟨rfl, below_in hBW (below_in hB1 (below_one _ _))⟩

end Go.Proofs.YtckfepmahjgmfaaDoor.E

namespace Go.Proofs.YtckfepmahjgmfaaDoor.E
open Go.RowKit Go.Shelf Go.Proofs.YtckfepmahjgmfaaDoor.C
set_option linter.unusedSimpArgs false
set_option linter.unusedVariables false

/-- The slice value v has the values us as its cells, below block B. -/
def Vals (B : Nat) (W : World) (v : Value) (us : List Value) : Prop :=
  (v = .slice none 0 0 ∧ us = []) ∨ ∃ b off cap, v = .slice (some ⟨b, off, none⟩) us.length cap ∧ us.length ≤ cap ∧ b < B ∧ ∀ (j : Nat) (u : Value), us[j]? = some u → W.cell? ⟨b, off + j, none⟩ = some u
theorem Vals.below {B : Nat} {W W' : World} {v : Value} {us : List Value} (h : Vals B W v us) (hb : Below B W W') : Vals B W' v us :=
  h.imp id fun ⟨b, off, cap, e, hc, hlt, hcell⟩ => ⟨b, off, cap, e, hc, hlt, fun j u hu => (hb.cell (p := ⟨b, off + j, none⟩) hlt).trans (hcell j u hu)⟩
theorem Vals.len {B : Nat} {W : World} {v : Value} {us : List Value} (h : Vals B W v us) : ∃ A cap, v = .slice A us.length cap := by
  rcases h with ⟨rfl, rfl⟩ | ⟨b, off, cap, e, _⟩
  · exact ⟨none, 0, rfl⟩
  · exact ⟨_, cap, e⟩
/-- A row of the call's own, of slices. -/
def OwnS (w : World) (base : Nat) (v : Value) (us : List Value) : Prop := w.ownsRow base 48 1 v us.length us
end Go.Proofs.YtckfepmahjgmfaaDoor.E

namespace Go.Proofs.YtckfepmahjgmfaaDoor.E
open Go.RowKit Go.Shelf Go.Proofs.YtckfepmahjgmfaaDoor.C
set_option linter.unusedSimpArgs false
set_option linter.unusedVariables false

/-- The slice value v has the values us, that read as the cells ls. -/
def ManyV (B : Nat) (W : World) (v : Value) (us : List Value) (ls : List (List UInt8)) : Prop := us.length = ls.length ∧ Vals B W v us ∧ ∀ (j : Nat) (u : Value), us[j]? = some u → Bytes B W u (ls[j]?.getD [])
theorem ManyV.below {B : Nat} {W W' : World} {v : Value} {us : List Value} {ls : List (List UInt8)} (h : ManyV B W v us ls) (hb : Below B W W') : ManyV B W' v us ls := ⟨h.1, h.2.1.below hb, fun j u hu => (h.2.2 j u hu).below hb⟩
theorem ManyV.one {B : Nat} {W : World} {v : Value} {us : List Value} {ls : List (List UInt8)} (h : ManyV B W v us ls) : ∀ u ∈ us, u.oneCell' = true := fun u hu => by
  obtain ⟨j, hj⟩ := List.getElem?_of_mem hu
  obtain ⟨A, cap, rfl, _⟩ := h.2.2 j u hj
  rfl
theorem OwnS.many {B base : Nat} {W : World} {v : Value} {us : List Value} {ls : List (List UInt8)} (h : OwnS W base v us) (hn : us.length = ls.length) (h0 : 0 < us.length) (hb : ∀ (j : Nat) (u : Value), us[j]? = some u → Bytes B W u (ls[j]?.getD [])) (hB : B ≤ W.heap.size) : Many W.heap.size W v ls := by
  have hcp : ∀ g cap, v = .slice (some ⟨g, 0, none⟩) us.length cap → us.length ≤ cap := fun g cap e => by
    rcases h.2 with ⟨_, h1⟩ | ⟨g2, cap2, cur, e2, _, _, hnc, _⟩
    · omega
    · rw [e] at e2
      injection e2 with _ _ e3
      omega
  obtain ⟨g, cap, e, hg, hg1⟩ := World.ownsRow.form h h0
  have hcap := hcp g cap e
  subst e
  refine ⟨_, cap, by rw [hn], by rw [← hn]; exact hcap, fun _ => ⟨g, 0, rfl, by omega, fun j hj => ?_⟩⟩
  have hj2 : j < us.length := by omega
  refine ⟨us[j], ?_, (hb j us[j] (List.getElem?_eq_getElem hj2)).more hB⟩
  rw [Nat.zero_add, World.ownsRow.cellAt h j (by omega), List.getElem?_eq_getElem hj2]

end Go.Proofs.YtckfepmahjgmfaaDoor.E

namespace Go.Proofs.YtckfepmahjgmfaaDoor.E
open Go.RowKit Go.Shelf Go.Proofs.YtckfepmahjgmfaaDoor.C
set_option linter.unusedSimpArgs false
set_option linter.unusedVariables false

theorem Vals.more {B B' : Nat} {W : World} {v : Value} {us : List Value} (h : Vals B W v us) (hB : B ≤ B') : Vals B' W v us :=
  h.imp id fun ⟨b, off, cap, e, hc, hlt, hcell⟩ => ⟨b, off, cap, e, hc, Nat.lt_of_lt_of_le hlt hB, hcell⟩
theorem ManyV.more {B B' : Nat} {W : World} {v : Value} {us : List Value} {ls : List (List UInt8)} (h : ManyV B W v us ls) (hB : B ≤ B') : ManyV B' W v us ls := ⟨h.1, h.2.1.more hB, fun j u hu => (h.2.2 j u hu).more hB⟩
end Go.Proofs.YtckfepmahjgmfaaDoor.E

namespace Go.Proofs.YtckfepmahjgmfaaDoor.E
open Go.RowKit Go.Shelf Go.Proofs.YtckfepmahjgmfaaDoor.C
set_option linter.unusedSimpArgs false
set_option linter.unusedVariables false

/-- Columns read, value by value: the cell of column c and row r is f c r. -/
def GridV (B : Nat) (W : World) (v : Value) (n R : Nat) (f : Nat → Nat → Value) : Prop :=
  ∃ b off cap, v = .slice (some ⟨b, off, none⟩) n cap ∧ b < B ∧ n ≤ cap ∧ ∀ c, c < n → ∃ b2 off2 cap2, W.cell? ⟨b, off + c, none⟩ = some (.slice (some ⟨b2, off2, none⟩) R cap2) ∧ R ≤ cap2 ∧ b2 < B ∧ ∀ r, r < R → W.cell? ⟨b2, off2 + r, none⟩ = some (f c r)
theorem GridV.keep_ {B : Nat} {W W' : World} {v : Value} {n R : Nat} {f : Nat → Nat → Value} (h : GridV B W v n R f) (hk : ∀ p : Addr, p.block < B → W'.cell? p = W.cell? p) : GridV B W' v n R f := by
  obtain ⟨b, off, cap, e, hb, hc, hA⟩ := h
  refine ⟨b, off, cap, e, hb, hc, fun c hc => ?_⟩
  obtain ⟨b2, off2, cap2, h1, h2, h3, h4⟩ := hA c hc
  exact ⟨b2, off2, cap2, (hk _ hb).trans h1, h2, h3, fun r hr => (hk _ h3).trans (h4 r hr)⟩
theorem GridV.below {B : Nat} {W W' : World} {v : Value} {n R : Nat} {f : Nat → Nat → Value} (h : GridV B W v n R f) (hb : Below B W W') : GridV B W' v n R f := h.keep_ fun _ hp => hb.cell hp
end Go.Proofs.YtckfepmahjgmfaaDoor.E

