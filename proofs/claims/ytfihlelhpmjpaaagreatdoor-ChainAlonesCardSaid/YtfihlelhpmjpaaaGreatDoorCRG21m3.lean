/- chain: small things for the laws. -/
import Derived.Laws.StructEq
import Derived.Maps.OwnIn
import Derived.Maps.OwnSet
import Derived.Laws.EntriesVeiled
import Derived.Deep.AppendLies
import Derived.RangeFuncNested
import Derived.Shelf.RegionOpen
import Derived.Laws.OwnMore
import Derived.Test.YtfihlelhpmjpaaaGreatDoorCRG19m3
import Derived.Test.YtfihlelhpmjpaaaGreatDoorCRG21
namespace Go.Proofs.YtfihlelhpmjpaaaGreatDoor.Ch
open Go.RowKit Go.Shelf Go.Proofs.YtfihlelhpmjpaaaGreatDoor.C Go.Proofs.YtfihlelhpmjpaaaGreatDoor.E Go.Proofs.YtfihlelhpmjpaaaGreatDoor.T
set_option linter.unusedSimpArgs false
set_option linter.unusedVariables false

theorem few_len {s : List (List (List UInt8))} (h : Few6 s) : s.length ≤ 1000 ∧ (∀ j i : Nat, (s[j]?.getD []).length ≤ 1000 ∧ ((s[j]?.getD [])[i]?.getD []).length ≤ 1000) := by
  refine ⟨by have := h.1; omega, fun j i => ?_⟩
  rcases Nat.lt_or_ge j s.length with hj | hj
  · have h2 := h.2 j hj
    refine ⟨by have := h2.1; omega, ?_⟩
    rcases Nat.lt_or_ge i (s[j]?.getD []).length with hi | hi
    · have := h2.2 i hi; omega
    · rw [List.getElem?_eq_none hi]; exact Nat.zero_le _
  · rw [List.getElem?_eq_none hj]
    exact ⟨Nat.zero_le _, by simp⟩
theorem kept_good {Q n : Nat} {L : List Int} {css : List (List (List UInt8))} (h : ∀ j, j < (kept L css css.length).length → GoodC Q n ((kept L css css.length)[j]?.getD [])) : ∀ i, i < css.length → (i : Int) ∉ L → GoodC Q n (css[i]?.getD []) := fun i hi hm => by
  have hm2 : css[i]?.getD [] ∈ kept L css css.length := kept_mem.2 ⟨i, hi, hm, rfl⟩
  obtain ⟨j, hj, e⟩ := List.mem_iff_getElem.1 hm2
  have h2 := h j hj
  rw [List.getElem?_eq_getElem hj] at h2
  have h3 : GoodC Q n (kept L css css.length)[j] := h2
  rwa [e] at h3
section
variable {P Q n : Nat} {x y : List (List (List UInt8))} {L : List Int}
end
end Go.Proofs.YtfihlelhpmjpaaaGreatDoor.Ch

