/- chain: the mathematics of the document's formula, and of what EVENODD made. -/
import Derived.Test.YtfihlelhpmjpaaaGreatDoorCRG12m5
import Derived.Test.YtfihlelhpmjpaaaGreatDoorCRG19m7
namespace Go.Proofs.YtfihlelhpmjpaaaGreatDoor.Ch
open Go.RowKit Go.Shelf Go.Proofs.YtfihlelhpmjpaaaGreatDoor.C Go.Proofs.YtfihlelhpmjpaaaGreatDoor.E Go.Proofs.YtfihlelhpmjpaaaGreatDoor.Rg
set_option linter.unusedSimpArgs false
set_option linter.unusedVariables false

section
variable {P Q n : Nat} {css : List (List (List UInt8))} {fr : List (List UInt8)} {L : List Int} {f : Int}
end
section
variable {P Q n : Nat} {css : List (List (List UInt8))} {L : List Int}
/-- The rows of what is left, by the document's sum. -/
theorem rs_is (d : Dims P Q n) (hl : css.length = P + 2) (hgood : ∀ i : Nat, i < css.length → (i : Int) ∉ L → GoodC Q n (css[i]?.getD [])) (hP : (P : Int) ∉ L) : rsF P Q (lostC L Q n css) = sumsD P Q n css (css[P]?.getD []) L 0 P := by
  have hgl := lostC_goods d hgood
  have hll : (lostC L Q n css).length = P + 2 := by rw [lostC_len, hl]
  have gP := hgood P (by omega) hP
  refine col_ext d.hQ (rd_good d rfl hll (fun c hc => hgl c (by omega))).1 (sumsD_good d gP P) fun j r => ?_
  rw [bt_rs d rfl hll (fun c hc => hgl c (by omega)), bt_sumsD d gP j r P (fun c hc => hgood c (by omega)), bt_lost d (by omega), if_neg hP]
  congr 2
  refine List.map_congr_left fun c hc => ?_
  have hc' := List.mem_range.1 hc
  rw [bt_lost d (by omega)]
  split
  · rfl
  · rw [Int.mul_zero, tu_zero (Bt.per d.hQ _ j).2]
end
/-- The second column by the document's formula. -/
def secX (P Q n : Nat) (R D : List (List UInt8)) (a : Int) : List (List UInt8) := turnC P Q n (putC D (turnC P Q n R a)) (-a)
def secC (P Q n : Nat) (R D : List (List UInt8)) (a b : Int) : List (List UInt8) := slackL P Q (wholeF Q n (secX P Q n R D a)) (b - a)
section
variable {P Q n : Nat} {R D : List (List UInt8)} {a b : Int}
theorem secX_good (d : Dims P Q n) (gR : GoodC Q n R) (gD : GoodC Q n D) : GoodC Q n (secX P Q n R D a) := turn_good d.h1 d.h64 (put_good d.h1 d.h64 gD) _
theorem secC_good (d : Dims P Q n) (gR : GoodC Q n R) (gD : GoodC Q n D) : GoodC Q n (secC P Q n R D a b) := slack_good d.hQ d.h1 d.h64 (secX_good d gR gD) _
theorem bt_secX (d : Dims P Q n) (gR : GoodC Q n R) (gD : GoodC Q n D) (j : Nat) (r : Int) : Bt P Q n (secX P Q n R D a) j r = tu (-a) (fun r => Bt P Q n D j r ^^^ tu a (Bt P Q n R j) r) r := by
  unfold secX
  rw [bt_turn d.hQ (put_good d.h1 d.h64 gD)]
  congr 1
  funext s
  rw [bt_put d.hQ gD (turn_good d.h1 d.h64 gR a), bt_turn d.hQ gR]
theorem solves_sec (d : Dims P Q n) (gR : GoodC Q n R) (gD : GoodC Q n D) (hab : (b - a) % (P : Int) ≠ 0) : Solves P Q n R D (putC R (secC P Q n R D a b)) (secC P Q n R D a b) a b := by
  have gB := secC_good (a := a) (b := b) d gR gD
  have gX := secX_good (a := a) d gR gD
  have hA : ∀ j r, Bt P Q n (putC R (secC P Q n R D a b)) j r = Bt P Q n R j r ^^^ Bt P Q n (secC P Q n R D a b) j r := fun j r => bt_put d.hQ gR gB j r
  refine ⟨put_good d.h1 d.h64 gR, gB, fun j r => ?_, fun j r => ?_⟩
  · rw [hA, UInt8.xor_assoc, UInt8.xor_self, UInt8.xor_zero]
  · rw [show Bt P Q n (putC R (secC P Q n R D a b)) j = fun r => Bt P Q n R j r ^^^ Bt P Q n (secC P Q n R D a b) j r from funext (hA j)]
    refine second_is (P := P) (Bt.per d.hQ _ j) (Bt.per d.hQ _ j) (Bt.per d.hQ _ j) (fun r => ?_) r
    rw [← bt_str d.hQ gB, ← bt_secX d gR gD]
    unfold secC
    rw [str_slack d.hQ d.hp d.h1 d.h64 gX hab]
end
/- What is put upon one another solves what is put upon one another. -/
section
variable {P Q n : Nat} {R D A B R' D' A' B' : List (List UInt8)} {a b : Int}
end
/- Sums of which some lack. -/
/- Of what EVENODD made two columns, or one, are lost. -/
section
variable {P Q n : Nat} {css cs2 : List (List (List UInt8))}
variable {L : List Int}
end
end Go.Proofs.YtfihlelhpmjpaaaGreatDoor.Ch

