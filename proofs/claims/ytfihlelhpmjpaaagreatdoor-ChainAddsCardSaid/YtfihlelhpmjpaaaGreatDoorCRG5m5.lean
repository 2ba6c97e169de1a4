/- ring: walks by a step that has an inverse; columns turned, stretched, slackened, byte by byte. -/
import Derived.BigFrame
import Derived.Deep.Matrix
import Derived.ShutString
import Derived.ChangeOld
import Derived.Laws.CopyOwn
import Derived.Laws.Tables
import Derived.Test.YtfihlelhpmjpaaaGreatDoorCRG4m13
import Derived.Test.YtfihlelhpmjpaaaGreatDoorCRG5
namespace Go.Proofs.YtfihlelhpmjpaaaGreatDoor.Rg
open Go.RowKit Go.Shelf Go.Proofs.YtfihlelhpmjpaaaGreatDoor.C Go.Proofs.YtfihlelhpmjpaaaGreatDoor.E
set_option linter.unusedSimpArgs false
set_option linter.unusedVariables false

theorem inv_fact : ∀ p ∈ prm, ∀ m ∈ List.range 17, (m : Int) < p → m ≠ 0 → ∃ i ∈ List.range 17, (i : Int) < p ∧ (m : Int) * (i : Int) % p = 1 := by decide +kernel
theorem inv_ex (p : Int) (hp : p ∈ prm) (m : Int) (h0 : 0 ≤ m) (hm : m < p) (hne : m ≠ 0) : ∃ i : Int, 0 ≤ i ∧ i < p ∧ m * i % p = 1 := by
  have hb := prm_bounds hp
  obtain ⟨n, rfl⟩ : ∃ n : Nat, m = (n : Int) := ⟨m.toNat, by omega⟩
  obtain ⟨i, _, h1, h2⟩ := inv_fact p hp n (List.mem_range.2 (by omega)) hm (by omega)
  exact ⟨i, by omega, h1, h2⟩
end Go.Proofs.YtfihlelhpmjpaaaGreatDoor.Rg

