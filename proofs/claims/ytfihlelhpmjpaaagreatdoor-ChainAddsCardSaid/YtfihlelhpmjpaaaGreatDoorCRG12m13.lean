/- ring: the mathematics of turned, stretched and slackened columns, byte by byte. -/
import Derived.Laws.CopyOwn
import Derived.Test.YtfihlelhpmjpaaaGreatDoorCRG4m13
import Derived.Test.YtfihlelhpmjpaaaGreatDoorCRG12
namespace Go.Proofs.YtfihlelhpmjpaaaGreatDoor.Rg
open Go.RowKit Go.Shelf Go.Proofs.YtfihlelhpmjpaaaGreatDoor.C Go.Proofs.YtfihlelhpmjpaaaGreatDoor.E
set_option linter.unusedSimpArgs false
set_option linter.unusedVariables false

theorem idx_map {α : Type} [BEq α] [LawfulBEq α] : ∀ (l : List α), l.Nodup → ∀ m (hm : m < l.length), l.idxOf l[m] = m := by
  intro l
  induction l with
  | nil => intro _ m hm; simp at hm
  | cons a l ih =>
    intro hn m hm
    rw [List.nodup_cons] at hn
    rcases m with _ | m
    · simp
    · rw [List.idxOf_cons]
      have : (a == (a :: l)[m + 1]) = false := by
        rw [beq_eq_false_iff_ne]
        intro e
        exact hn.1 (by rw [e]; simp)
      rw [this]
      simp only [List.getElem_cons_succ, cond_false]
      rw [ih hn.2 m (by simpa using hm)]
end Go.Proofs.YtfihlelhpmjpaaaGreatDoor.Rg

