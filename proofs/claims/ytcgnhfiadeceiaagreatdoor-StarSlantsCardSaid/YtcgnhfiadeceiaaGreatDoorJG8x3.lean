/- The document's Members, Parity. The document's Parity. The mathematics of the document's columns of any code: what is made by members. The mathematics of EVENODD: where columns go one to the right, that of diagonals is turned by one. The mathematics of STAR: slants, columns turned over, what is made of them. EVENOdecide (encOf p (css.take p.toNat) = css.drop p.toNat): Check. The document's answers for EVENODD: the same columns. The document's answers for EVENODD: a nought; columns put upon one another. The laws of EVENODD: what they share: num, code, right. The laws of EVENODD: the chapter's rows. EvenoddHolds: what is called, of two lists of columns that are right. -/
import Derived.Test.YtcgnhfiadeceiaaGreatDoorJG7
import Derived.Test.YtcgnhfiadeceiaaGreatDoorJG6
import Derived.Test.YtcgnhfiadeceiaaGreatDoorJG6x1
import Derived.Test.YtcgnhfiadeceiaaGreatDoorJG6x2
import Derived.Test.YtcgnhfiadeceiaaGreatDoorJG6x3
import Derived.Test.YtcgnhfiadeceiaaGreatDoorJG1
import Derived.Test.YtcgnhfiadeceiaaGreatDoorJG8
import Derived.Test.YtcgnhfiadeceiaaGreatDoorJG8x2
namespace Go.Proofs.YtcgnhfiadeceiaaGreatDoor.T
open Go.RowKit Go.Shelf Go.Proofs.YtcgnhfiadeceiaaGreatDoor.C Go.Proofs.YtcgnhfiadeceiaaGreatDoor.E
set_option linter.unusedSimpArgs false
set_option linter.unusedVariables false

theorem diag_over0 : ∀ p ∈ prm, ∀ k ∈ List.range p.toNat, ((diagAt p (k : Int) p.toNat).map fun x => ((p.toNat - x.1) % p.toNat, x.2)).isPerm (slAt p (k : Int)) = true := by decide +kernel
theorem range_over0 : ∀ p ∈ prm, ((List.range p.toNat).map fun c => (p.toNat - c) % p.toNat).isPerm (List.range p.toNat) = true := by decide +kernel
section
variable {p : Int} {a b css : List (List (List UInt8))}
theorem by_over (h : DataOk p css) {c : Nat} (hc : c < p.toNat) (j r : Nat) : by_ (overOf css) j c r = by_ css j ((p.toNat - c) % p.toNat) r := by
  unfold by_ cellOf_
  rw [overOf_col (dataOk_n h).1 hc]
theorem rows_over (h : DataOk p css) : rowsMade (p - 1).toNat (overOf css) = rowsMade (p - 1).toNat css := by
  have ho := over_ok h
  unfold rowsMade
  refine List.map_congr_left fun r hr => ?_
  rw [List.mem_range] at hr
  refine ext_at (by rw [row_len ho.1 hr, row_len h hr, ho.2]) fun j => ?_
  rw [at_row ho.1 hr, at_row h hr, ← xa_perm ((List.isPerm_iff.1 (range_over0 p h.1.2)).map fun c => by_ css j c r), List.map_map]
  congr 1
  refine List.map_congr_left fun c hc => ?_
  exact by_over h (List.mem_range.1 hc) j r
theorem dg_over (h : DataOk p css) {k : Int} (h0 : 0 ≤ k) (h1 : k < p) (j : Nat) : dg_ p (overOf css) j k = sg_ p css j k := by
  have hd := dataOk_n h
  have hp := diag_over0 p h.1.2 k.toNat (List.mem_range.2 (by omega))
  rw [show ((k.toNat : Nat) : Int) = k by omega] at hp
  unfold dg_ sg_
  rw [← xa_perm ((List.isPerm_iff.1 hp).map fun x => by_ css j x.1 x.2), List.map_map]
  congr 1
  refine List.map_congr_left fun x hx => ?_
  exact by_over h (diagAt_in (by omega) hx).1 j x.2
/-- The column of diagonals of columns turned over is that of slants. -/
theorem diags_over (h : DataOk p css) : diagsMade p (p - 1).toNat (overOf css) = slMade p css := by
  have hd := dataOk_n h
  have ho := over_ok h
  unfold diagsMade slMade
  refine List.map_congr_left fun r hr => ?_
  rw [List.mem_range] at hr
  refine ext_at (by rw [diag_len ho.1 (by omega), slCell_len, ho.2]) fun j => ?_
  rw [at_diagMade ho.1 (by omega), at_slMade h (by omega), dg_over h (by omega) (by omega), dg_over h (by omega) (by omega), UInt8.xor_comm]
theorem over_put (h : a.length = b.length) (h0 : 0 < a.length) : overOf (putOf a b) = putOf (overOf a) (overOf b) := by
  have hb0 : 0 < b.length := by omega
  have hl : (putOf a b).length = a.length := putOf_len
  refine List.ext_getElem? fun c => ?_
  rcases Nat.lt_or_ge c a.length with hc | hc
  · have e1 := overOf_col (css := putOf a b) hl hc
    have e2 : (putOf (overOf a) (overOf b))[c]?.getD [] = putCol ((overOf a)[c]?.getD []) ((overOf b)[c]?.getD []) := putOf_col (by rw [overOf_len h0]; exact hc)
    rw [overOf_col rfl hc, overOf_col h.symm hc] at e2
    rw [putOf_col (Nat.mod_lt _ h0)] at e1
    have l1 : c < (overOf (putOf a b)).length := by rw [overOf_len (by rw [hl]; exact h0), hl]; exact hc
    have l2 : c < (putOf (overOf a) (overOf b)).length := by rw [putOf_len, overOf_len h0]; exact hc
    rw [List.getElem?_eq_getElem l1, List.getElem?_eq_getElem l2] at *
    simp only [Option.getD_some] at e1 e2
    rw [e1, e2]
  · rw [List.getElem?_eq_none (by rw [overOf_len (by rw [hl]; exact h0), hl]; exact hc), List.getElem?_eq_none (by rw [putOf_len, overOf_len h0]; exact hc)]
theorem star_put (ha : DataOk p a) (hb : DataOk p b) (hl : (firstC a).length = (firstC b).length) : starOf p (putOf a b) = putOf (starOf p a) (starOf p b) := by
  have hda := dataOk_n ha
  have hdb := dataOk_n hb
  have h1 := enc_put ha hb hl
  have h2 := enc_put (over_ok ha).1 (over_ok hb).1 (by rw [(over_ok ha).2, (over_ok hb).2]; exact hl)
  rw [← over_put (by omega) (by omega)] at h2
  have hz := (put_ok (b := b) ha).1
  unfold encOf at h2
  rw [rows_over hz, rows_over ha, rows_over hb, diags_over hz, diags_over ha, diags_over hb] at h2
  have h3 : slMade p (putOf a b) = putCol (slMade p a) (slMade p b) := by
    injection h2 with _ h2
    injection h2 with h2 _
  unfold starOf
  rw [h1, h3]
  rfl

end
end Go.Proofs.YtcgnhfiadeceiaaGreatDoor.T

