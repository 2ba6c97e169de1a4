/- chain: the mathematics of the document's formula, and of what EVENODD made. -/
import Derived.Test.YtfihlelhpmjpaaaGreatDoorCRG12m7
import Derived.Test.YtfihlelhpmjpaaaGreatDoorCRG19
namespace Go.Proofs.YtfihlelhpmjpaaaGreatDoor.Ch
open Go.RowKit Go.Shelf Go.Proofs.YtfihlelhpmjpaaaGreatDoor.C Go.Proofs.YtfihlelhpmjpaaaGreatDoor.E Go.Proofs.YtfihlelhpmjpaaaGreatDoor.Rg
set_option linter.unusedSimpArgs false
set_option linter.unusedVariables false

/-- The document's sum: what is there of the first m columns, turned, upon a column. -/
def sumsD (P Q n : Nat) (css : List (List (List UInt8))) (fr : List (List UInt8)) (L : List Int) (f : Int) : Nat → List (List UInt8)
  | 0 => fr
  | m + 1 => if (m : Int) ∈ L then sumsD P Q n css fr L f m else putC (sumsD P Q n css fr L f m) (turnC P Q n (css[m]?.getD []) ((m : Int) * f))
section
variable {P Q n : Nat} {css : List (List (List UInt8))} {fr : List (List UInt8)} {L : List Int} {f : Int}
theorem sumsD_good (d : Dims P Q n) (hf : GoodC Q n fr) : ∀ m, GoodC Q n (sumsD P Q n css fr L f m)
  | 0 => hf
  | m + 1 => by
    unfold sumsD
    split
    · exact sumsD_good d hf m
    · exact put_good d.h1 d.h64 (sumsD_good d hf m)
theorem bt_sumsD (d : Dims P Q n) (hf : GoodC Q n fr) (j : Nat) (r : Int) : ∀ m : Nat, (∀ c : Nat, c < m → (c : Int) ∉ L → GoodC Q n (css[c]?.getD [])) → Bt P Q n (sumsD P Q n css fr L f m) j r = Bt P Q n fr j r ^^^ xa ((List.range m).map fun c : Nat => if (c : Int) ∈ L then 0 else tu ((c : Int) * f) (Bt P Q n (css[c]?.getD []) j) r)
  | 0, _ => by
    show Bt P Q n fr j r = _
    rw [List.range_zero, List.map_nil, xa_nil, UInt8.xor_zero]
  | m + 1, hg => by
    have ih := bt_sumsD d hf j r m (fun c hc => hg c (by omega))
    rw [List.range_succ, List.map_append, xa_append, List.map_cons, List.map_nil, xa_cons, xa_nil, UInt8.xor_zero]
    unfold sumsD
    split
    · rw [ih, UInt8.xor_zero]
    · rename_i h
      have g1 := hg m (by omega) h
      rw [bt_put d.hQ (sumsD_good d hf m) (turn_good d.h1 d.h64 g1 _), ih, bt_turn d.hQ g1, UInt8.xor_assoc]
end
section
variable {P Q n : Nat} {css : List (List (List UInt8))} {L : List Int}
theorem ds_is {L2 : List Int} (d : Dims P Q n) (hl : css.length = P + 2) (hgood : ∀ i : Nat, i < css.length → (i : Int) ∉ L → GoodC Q n (css[i]?.getD [])) (hP : ((P + 1 : Nat) : Int) ∉ L) (h2 : ∀ c : Nat, c < P → ((c : Int) ∈ L2 ↔ (c : Int) ∈ L)) : dsF P Q (lostC L Q n css) = sumsD P Q n css (css[P + 1]?.getD []) L2 1 P := by
  have hgl := lostC_goods d hgood
  have hll : (lostC L Q n css).length = P + 2 := by rw [lostC_len, hl]
  have gP := hgood (P + 1) (by omega) hP
  refine col_ext d.hQ (rd_good d rfl hll (fun c hc => hgl c (by omega))).2 (sumsD_good d gP P) fun j r => ?_
  rw [bt_ds d rfl hll (fun c hc => hgl c (by omega)), bt_sumsD d gP j r P (fun c hc hm => hgood c (by omega) (fun h => hm ((h2 c hc).2 h))), bt_lost d (by omega), if_neg hP]
  congr 2
  refine List.map_congr_left fun c hc => ?_
  have hc' := List.mem_range.1 hc
  rw [tu_noC d (by omega), Int.mul_one]
  by_cases h : (c : Int) ∈ L
  · rw [if_pos h, if_pos ((h2 c hc').2 h)]
  · rw [if_neg h, if_neg (fun h' => h ((h2 c hc').1 h'))]
end
section
variable {P Q n : Nat} {R D : List (List UInt8)} {a b : Int}
end
/- What is put upon one another solves what is put upon one another. -/
section
variable {P Q n : Nat} {R D A B R' D' A' B' : List (List UInt8)} {a b : Int}
end
/- Sums of which some lack. -/
/- Of what EVENODD made two columns, or one, are lost. -/
section
variable {P Q n : Nat} {css cs2 : List (List (List UInt8))}
variable {L : List Int}
end
end Go.Proofs.YtfihlelhpmjpaaaGreatDoor.Ch

