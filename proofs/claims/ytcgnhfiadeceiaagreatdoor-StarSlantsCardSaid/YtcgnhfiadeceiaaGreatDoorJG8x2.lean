/- The document's Members, Parity. The document's Parity. The mathematics of the document's columns of any code: what is made by members. The mathematics of EVENODD: where columns go one to the right, that of diagonals is turned by one. The mathematics of STAR: slants, columns turned over, what is made of them. EVENOdecide (encOf p (css.take p.toNat) = css.drop p.toNat): Check. The document's answers for EVENODD: the same columns. The document's answers for EVENODD: a nought; columns put upon one another. The laws of EVENODD: what they share: num, code, right. The laws of EVENODD: the chapter's rows. EvenoddHolds: what is called, of two lists of columns that are right. -/
import Derived.Test.YtcgnhfiadeceiaaGreatDoorJG7
import Derived.Test.YtcgnhfiadeceiaaGreatDoorJG6
import Derived.Test.YtcgnhfiadeceiaaGreatDoorJG6x1
import Derived.Test.YtcgnhfiadeceiaaGreatDoorJG6x2
import Derived.Test.YtcgnhfiadeceiaaGreatDoorJG1
import Derived.Test.YtcgnhfiadeceiaaGreatDoorJG8
namespace Go.Proofs.YtcgnhfiadeceiaaGreatDoor.E
open Go.RowKit Go.Shelf Go.Proofs.YtcgnhfiadeceiaaGreatDoor.C
set_option linter.unusedSimpArgs false
set_option linter.unusedVariables false

/-- A column's cell, behind the last one a nought. -/
def cellX (ls : List (List UInt8)) (row : Nat) : List UInt8 := if row < ls.length then ls[row]?.getD [] else List.replicate (ls[0]?.getD []).length 0
def turnedOf (p by' : Int) (ls : List (List UInt8)) : List (List UInt8) := (List.range (p - 1).toNat).map fun (row : Nat) => xorB (cellX ls (((row : Int) - by') % p).toNat) (cellX ls ((p - 1 - by') % p).toNat)
/-- Each column one to the right. -/
def rightOf (css : List (List (List UInt8))) (n : Nat) : List (List (List UInt8)) := [css[n - 1]?.getD []] ++ css.take (n - 1)
section
variable {p : Int} {css : List (List (List UInt8))}
theorem right_len (h : DataOk p css) : (rightOf css p.toNat).length = p.toNat := by
  have hd := dataOk_n h
  unfold rightOf
  rw [List.length_append, List.length_take]
  simp
  omega
theorem right_col (h : DataOk p css) {c : Nat} (hc : c < p.toNat) : (rightOf css p.toNat)[c]?.getD [] = css[(c + p.toNat - 1) % p.toNat]?.getD [] := by
  have hd := dataOk_n h
  unfold rightOf
  cases c with
  | zero => rw [show (0 + p.toNat - 1) % p.toNat = p.toNat - 1 from by rw [Nat.zero_add]; exact Nat.mod_eq_of_lt (by omega)]; rfl
  | succ c =>
    rw [show (c + 1 + p.toNat - 1) % p.toNat = c from by rw [show c + 1 + p.toNat - 1 = c + p.toNat by omega, Nat.add_mod_right]; exact Nat.mod_eq_of_lt (by omega)]
    rw [List.getElem?_append_right (by simp)]
    simp only [List.length_singleton, Nat.add_sub_cancel]
    rw [List.getElem?_take_of_lt (by omega)]
theorem right_ok (h : DataOk p css) : DataOk p (rightOf css p.toNat) := by
  have hd := dataOk_n h
  obtain ⟨hR, hn, h0, hall⟩ := id h
  have hcol : ∀ c, c < p.toNat → ((rightOf css p.toNat)[c]?.getD []).length = (p - 1).toNat ∧ AllLen (firstC css).length ((rightOf css p.toNat)[c]?.getD []) := fun c hc => by
    rw [right_col h hc]
    have := hall ((c + p.toNat - 1) % p.toNat) (by rw [hd.1]; exact Nat.mod_lt _ (by omega))
    exact ⟨this.1, this.2.2⟩
  have hf : (firstC (rightOf css p.toNat)).length = (firstC css).length := (hcol 0 (by omega)).2 0 (by rw [(hcol 0 (by omega)).1]; omega)
  have hf1 := togOk_first h.2.2
  refine ⟨hR, by rw [right_len h]; omega, by rw [right_len h]; omega, fun j hj => ?_⟩
  rw [right_len h] at hj
  exact ⟨(hcol j hj).1, by unfold Cell; omega, by rw [hf]; exact (hcol j hj).2⟩
theorem first_right (h : DataOk p css) : (firstC (rightOf css p.toNat)).length = (firstC css).length := by
  have hd := dataOk_n h
  unfold firstC
  rw [right_col h (by omega)]
  have := h.2.2.2 ((0 + p.toNat - 1) % p.toNat) (by rw [hd.1]; exact Nat.mod_lt _ (by omega))
  exact this.2.2 0 (by rw [this.1]; omega)
theorem by_right (h : DataOk p css) {c : Nat} (hc : c < p.toNat) (j r : Nat) : by_ (rightOf css p.toNat) j c r = by_ css j ((c + p.toNat - 1) % p.toNat) r := by
  unfold by_ cellOf_
  rw [right_col h hc]
theorem range_right0 : ∀ p ∈ prm, ((List.range p.toNat).map fun c => (c + p.toNat - 1) % p.toNat).isPerm (List.range p.toNat) = true := by decide +kernel
theorem diag_right0 : ∀ p ∈ prm, ∀ k ∈ List.range p.toNat, ((diagAt p (k : Int) p.toNat).map fun x => ((x.1 + p.toNat - 1) % p.toNat, x.2)).isPerm (diagAt p (((k : Int) - 1) % p) p.toNat) = true := by decide +kernel
theorem dg_right (h : DataOk p css) {k : Int} (h0 : 0 ≤ k) (h1 : k < p) (j : Nat) : dg_ p (rightOf css p.toNat) j k = dg_ p css j ((k - 1) % p) := by
  have hd := dataOk_n h
  have hp := diag_right0 p h.1.2 k.toNat (List.mem_range.2 (by omega))
  rw [show ((k.toNat : Nat) : Int) = k by omega] at hp
  unfold dg_
  rw [← xa_perm ((List.isPerm_iff.1 hp).map fun x => by_ css j x.1 x.2), List.map_map]
  congr 1
  refine List.map_congr_left fun x hx => ?_
  exact by_right h (diagAt_in (by omega) hx).1 j x.2
theorem rows_right (h : DataOk p css) : rowsMade (p - 1).toNat (rightOf css p.toNat) = rowsMade (p - 1).toNat css := by
  have hd := dataOk_n h
  unfold rowsMade
  refine List.map_congr_left fun r hr => ?_
  rw [List.mem_range] at hr
  refine ext_at (by rw [row_len (right_ok h) hr, row_len h hr, first_right h]) fun j => ?_
  rw [at_row (right_ok h) hr, at_row h hr, ← xa_perm ((List.isPerm_iff.1 (range_right0 p h.1.2)).map fun c => by_ css j c r), List.map_map]
  congr 1
  refine List.map_congr_left fun c hc => ?_
  exact by_right h (List.mem_range.1 hc) j r
theorem x_cancel (a b c : UInt8) : a ^^^ b ^^^ (a ^^^ c) = c ^^^ b := by
  rw [UInt8.xor_assoc, ← UInt8.xor_assoc b a c, UInt8.xor_comm b a, UInt8.xor_assoc a b c, ← UInt8.xor_assoc, UInt8.xor_self, UInt8.zero_xor, UInt8.xor_comm]
theorem diags_right (h : DataOk p css) : diagsMade p (p - 1).toNat (rightOf css p.toNat) = turnedOf p 1 (diagsMade p (p - 1).toNat css) := by
  have hd := dataOk_n h
  have hL := diagsMade_len (p := p) (css := css) (p - 1).toNat
  have e2 : (p - 1 - 1) % p = p - 2 := by rw [Int.emod_eq_of_lt (by omega) (by omega)]; omega
  have e3 : (p - 1 - 1) = p - 2 := by omega
  have hb : cellX (diagsMade p (p - 1).toNat css) ((p - 1 - 1) % p).toNat = xorOf ([adjOf p css] ++ diagOf p ((p - 2).toNat : Nat) css) := by
    unfold cellX
    rw [hL, e2, if_pos (by omega), diagsMade_at h (by omega)]
  have hl0 : ((diagsMade p (p - 1).toNat css)[0]?.getD []).length = (firstC css).length := by rw [diagsMade_at h (by omega)]; exact diag_len h (by omega)
  unfold turnedOf diagsMade
  refine List.map_congr_left fun r hr => ?_
  rw [List.mem_range] at hr
  show _ = xorB (cellX (diagsMade p (p - 1).toNat css) (((r : Int) - 1) % p).toNat) (cellX (diagsMade p (p - 1).toNat css) ((p - 1 - 1) % p).toNat)
  rw [hb]
  have hbl : (xorOf ([adjOf p css] ++ diagOf p ((p - 2).toNat : Nat) css)).length = (firstC css).length := diag_len h (by omega)
  have hbj := fun j => at_diagMade h (r := (p - 2).toNat) (by omega) j
  rw [show (((p - 2).toNat : Nat) : Int) = p - 2 by omega] at hbj hbl ⊢
  rcases Nat.eq_zero_or_pos r with h0 | h0
  · subst h0
    have e4 : (((0 : Nat) : Int) - 1) % p = p - 1 := by
      rw [show (((0 : Nat) : Int) - 1) = (p - 1) + p * (-1) by omega, Int.add_mul_emod_self_left, Int.emod_eq_of_lt (by omega) (by omega)]
    have hz : cellX (diagsMade p (p - 1).toNat css) ((((0 : Nat) : Int) - 1) % p).toNat = List.replicate (firstC css).length 0 := by
      unfold cellX
      rw [hL, e4, if_neg (by omega), hl0]
    rw [hz]
    refine ext_at (by rw [diag_len (right_ok h) (by omega), xorB_len, List.length_replicate, first_right h]) fun j => ?_
    rw [at_diagMade (right_ok h) (by omega), at_xorB _ _ _ (by rw [List.length_replicate]; exact hbl), at_zeros, UInt8.zero_xor, hbj, dg_right h (by omega) (by omega), dg_right h (by omega) (by omega), e2, e4, UInt8.xor_comm]
  · have e4 : ((r : Int) - 1) % p = ((r - 1 : Nat) : Int) := by rw [Int.emod_eq_of_lt (by omega) (by omega)]; omega
    have hz : cellX (diagsMade p (p - 1).toNat css) (((r : Int) - 1) % p).toNat = xorOf ([adjOf p css] ++ diagOf p ((r - 1 : Nat) : Int) css) := by
      unfold cellX
      rw [hL, e4, if_pos (by omega), diagsMade_at h (by omega)]
      rfl
    rw [hz]
    have hal : (xorOf ([adjOf p css] ++ diagOf p ((r - 1 : Nat) : Int) css)).length = (firstC css).length := diag_len h (by omega)
    refine ext_at (by rw [diag_len (right_ok h) (by omega), xorB_len, hal, first_right h]) fun j => ?_
    rw [at_diagMade (right_ok h) (by omega), at_xorB _ _ _ (by rw [hal]; exact hbl), hbj, at_diagMade h (r := r - 1) (by omega), dg_right h (by omega) (by omega), dg_right h (by omega) (by omega), e2, e4, x_cancel]
/-- That is what is made of columns that went one to the right. -/
theorem enc_right (h : DataOk p css) : encOf p (rightOf css p.toNat) = [rowsMade (p - 1).toNat css, turnedOf p 1 (diagsMade p (p - 1).toNat css)] := by
  unfold encOf
  rw [rows_right h, diags_right h]
end
end Go.Proofs.YtcgnhfiadeceiaaGreatDoor.E

namespace Go.Proofs.YtcgnhfiadeceiaaGreatDoor.T
open Go.RowKit Go.Shelf Go.Proofs.YtcgnhfiadeceiaaGreatDoor.C Go.Proofs.YtcgnhfiadeceiaaGreatDoor.E
set_option linter.unusedSimpArgs false
set_option linter.unusedVariables false

theorem slant_right0 : ∀ p ∈ prm, ∀ k ∈ List.range p.toNat, ((slAt p (k : Int)).map fun x => ((x.1 + p.toNat - 1) % p.toNat, x.2)).isPerm (slAt p (((k : Int) + 1) % p)) = true := by decide +kernel

section
variable {p : Int} {a b css : List (List (List UInt8))}
theorem star_grid (h : DataOk p css) : Grid (p - 1).toNat (firstC css).length (starOf p css) := fun j hj => by
  have hs := star_cells h
  rw [hs.1] at hj
  exact hs.2 j hj
theorem star_with (h : DataOk p css) {l : List (List (List UInt8))} (hl : Grid (p - 1).toNat (firstC css).length l) (h0 : 0 < l.length) : RightD p l := by
  have hd := dataOk_n h
  have hf1 := togOk_first h.2.2
  have hf : (firstC l).length = (firstC css).length := (hl 0 h0).2 0 (by omega)
  have hC : Cell (firstC l) := by unfold Cell; omega
  refine ⟨h.1.2, h0, fun j hj => ?_⟩
  have := hl j hj
  exact ⟨this.1, hC, fun i hi => by rw [hf]; exact this.2 i (by rw [this.1] at hi; exact hi)⟩
theorem sg_right (h : DataOk p css) {k : Int} (h0 : 0 ≤ k) (h1 : k < p) (j : Nat) : sg_ p (rightOf css p.toNat) j k = sg_ p css j ((k + 1) % p) := by
  have hd := dataOk_n h
  have hp := slant_right0 p h.1.2 k.toNat (List.mem_range.2 (by omega))
  rw [show ((k.toNat : Nat) : Int) = k by omega] at hp
  unfold sg_
  rw [← xa_perm ((List.isPerm_iff.1 hp).map fun x => by_ css j x.1 x.2), List.map_map]
  congr 1
  refine List.map_congr_left fun x hx => ?_
  exact by_right h (slAt_lt h.1.2 h0 h1 hx).1 j x.2
theorem slants_right (h : DataOk p css) : slMade p (rightOf css p.toNat) = turnedOf p (-1) (slMade p css) := by
  have hd := dataOk_n h
  have hr := right_ok h
  have hL : (slMade p css).length = (p - 1).toNat := slMade_len
  have e2 : (p - 1 - -1) % p = 0 := by rw [show p - 1 - -1 = p by omega, Int.emod_self]
  have hb : cellX (slMade p css) ((p - 1 - -1) % p).toNat = xorB (slOf p css ((0 : Nat) : Int)) (slOf p css (p - 1)) := by
    unfold cellX
    rw [hL, e2, if_pos (by omega)]
    exact slMade_at (by omega)
  have hl0 : ((slMade p css)[0]?.getD []).length = (firstC css).length := by rw [slMade_at (by omega), slCell_len]
  have e0 : (p - 1 + 1) % p = 0 := by rw [show p - 1 + 1 = p by omega, Int.emod_self]
  unfold turnedOf
  rw [hb]
  refine Eq.trans (rfl : _ = (List.range (p - 1).toNat).map fun (r : Nat) => xorB (slOf p (rightOf css p.toNat) (r : Int)) (slOf p (rightOf css p.toNat) (p - 1))) ?_
  refine List.map_congr_left fun r hrr => ?_
  rw [List.mem_range] at hrr
  have e4 : ((r : Int) - -1) % p = ((r + 1 : Nat) : Int) := by rw [Int.emod_eq_of_lt (by omega) (by omega)]; omega
  have e5 : ((r : Int) + 1) % p = ((r + 1 : Nat) : Int) := by rw [Int.emod_eq_of_lt (by omega) (by omega)]; omega
  rcases Nat.lt_or_ge (r + 1) (p - 1).toNat with h3 | h3
  · have hz : cellX (slMade p css) (((r : Int) - -1) % p).toNat = xorB (slOf p css ((r + 1 : Nat) : Int)) (slOf p css (p - 1)) := by
      unfold cellX
      rw [hL, e4, if_pos (by omega)]
      exact slMade_at (by omega)
    rw [hz]
    refine ext_at (by rw [slCell_len, xorB_len, slCell_len, first_right h]) fun j => ?_
    rw [at_slMade hr (by omega), at_xorB _ _ _ (by rw [slCell_len, slCell_len]), at_slMade h (by omega), at_slMade h (by omega), sg_right h (by omega) (by omega), sg_right h (by omega) (by omega), e5, e0]
    rw [UInt8.xor_assoc, UInt8.xor_comm (sg_ p css j ((0 : Nat) : Int)), ← UInt8.xor_assoc (sg_ p css j (p - 1)), UInt8.xor_self, UInt8.zero_xor]
    rfl
  · have hz : cellX (slMade p css) (((r : Int) - -1) % p).toNat = List.replicate (firstC css).length 0 := by
      unfold cellX
      rw [hL, e4, if_neg (by omega), hl0]
    rw [hz]
    refine ext_at (by rw [slCell_len, xorB_len, List.length_replicate, first_right h]) fun j => ?_
    rw [at_slMade hr (by omega), at_xorB _ _ _ (by rw [slCell_len, List.length_replicate]), at_zeros, at_slMade h (by omega), sg_right h (by omega) (by omega), sg_right h (by omega) (by omega), e5, e0, UInt8.zero_xor, UInt8.xor_comm, show ((r + 1 : Nat) : Int) = p - 1 by omega]
    rfl
theorem star_right (h : DataOk p css) : starOf p (rightOf css p.toNat) = [rowsMade (p - 1).toNat css, turnedOf p 1 (diagsMade p (p - 1).toNat css), turnedOf p (-1) (slMade p css)] := by
  unfold starOf
  rw [enc_right h, slants_right h]
  rfl
end
end Go.Proofs.YtcgnhfiadeceiaaGreatDoor.T

