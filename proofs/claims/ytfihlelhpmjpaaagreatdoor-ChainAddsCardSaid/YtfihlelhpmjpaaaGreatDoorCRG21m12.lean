/- chain: small things for the laws. An array of two integers that came in. -/
import Derived.Laws.StructEq
import Derived.Maps.OwnIn
import Derived.Maps.OwnSet
import Derived.Laws.EntriesVeiled
import Derived.Deep.AppendLies
import Derived.RangeFuncNested
import Derived.Shelf.RegionOpen
import Derived.Laws.OwnMore
import Derived.Test.YtfihlelhpmjpaaaGreatDoorCRG5m12
import Derived.Test.YtfihlelhpmjpaaaGreatDoorCRG21m13
namespace Go.Proofs.YtfihlelhpmjpaaaGreatDoor.Ch
open Go.RowKit Go.Shelf Go.Proofs.YtfihlelhpmjpaaaGreatDoor.C Go.Proofs.YtfihlelhpmjpaaaGreatDoor.E Go.Proofs.YtfihlelhpmjpaaaGreatDoor.T
set_option linter.unusedSimpArgs false
set_option linter.unusedVariables false

section
variable {P Q n : Nat} {x y : List (List (List UInt8))} {L : List Int}
end
/-- Columns that lie ahead of a row's own block. -/
theorem app_far {W U : World} {base : Nat} {v x : Value} {css ds : List (List (List UInt8))} (hU : Below W.heap.size W U) (hb : W.heap.size ≤ base) (hrow : RowC (fun _ => True) U base v css) (hx : Cols W.heap.size U x ds) : colsR.R (fun b => b < U.heap.size ∧ some b ≠ v.ownBlock ∧ True) U x ds :=
  colsR.imp (colsR_iff.2 hx) fun b hb2 => by
    have h1 : b < W.heap.size := hb2
    have h2 := hU.size
    exact ⟨by omega, fun e => by have := RowG.own_le hrow b e.symm; omega, trivial⟩
end Go.Proofs.YtfihlelhpmjpaaaGreatDoor.Ch

namespace Go.Proofs.YtfihlelhpmjpaaaGreatDoor.Cd
open Go.RowKit Go.Shelf Go.Proofs.YtfihlelhpmjpaaaGreatDoor.C Go.Proofs.YtfihlelhpmjpaaaGreatDoor.E Go.ChangeShapes Go.WideShapes
set_option linter.unusedSimpArgs false
set_option linter.unusedVariables false

theorem list2' {α : Type} (l : List α) (h : l.length = 2) : ∃ a b, l = [a, b] := by
  match l, h with
  | [a, b], _ => exact ⟨a, b, rfl⟩
set_option maxRecDepth 100000 in
theorem open_two {H : Type} {enc : TypeId × Value → H} {W : World} {base : Nat} {v : Value} {d : DataW H} {p : List MemPlace} (hv : Value.okWide Tryz.prog W .any base 43 v) (h : ∃ fuel, DataW.trod enc Tryz.prog W 0 (fun _ => true) true fuel 43 v.cells.toList = some (d, p)) : ∃ x y : Int, v = .agg #[.int .i64 x, .int .i64 y] ∧ (Lit.int .i64 x).wf = true ∧ (Lit.int .i64 y).wf = true := by
  obtain ⟨cs, rfl, hsz, _⟩ : ∃ cs, v = .agg cs ∧ cs.size = Tryz.prog.cellsOf 43 ∧ Row.okWide Tryz.prog W .any base 43 cs := by
    simpa [Value.okWide, Tryz.underlying43] using hv
  rw [show Tryz.prog.cellsOf 43 = 2 by kernel_rfl] at hsz
  obtain ⟨l⟩ := cs
  obtain ⟨c0, c1, rfl⟩ := list2' l hsz
  obtain ⟨fuel, hf⟩ := h
  obtain ⟨xs, m, rfl, _, _, hn, hel⟩ := DataW.trod_array Tryz.underlying43 hf
  obtain ⟨y0, y1, rfl⟩ := list2' xs hn
  have h0 := hel 0 (by omega)
  have h1 := hel 1 (by omega)
  rw [cells_int] at h0 h1
  obtain ⟨x0, e0, _, w0⟩ := DataW.trod_int Tryz.underlying3 (show DataW.trod enc Tryz.prog W 0 (fun _ => true) true m 3 [c0] = some y0 from h0)
  obtain ⟨x1, e1, _, w1⟩ := DataW.trod_int Tryz.underlying3 (show DataW.trod enc Tryz.prog W 0 (fun _ => true) true m 3 [c1] = some y1 from h1)
  simp at e0 e1
  subst e0 e1
  exact ⟨x0, x1, rfl, w0, w1⟩
end Go.Proofs.YtfihlelhpmjpaaaGreatDoor.Cd

