/- What the laws of mod share: the variable of the primes as the row lays it, and a world in which it lies so. -/
import Derived.Test.YtoljflkfhdaipaaDoorMwJ
import Derived.ShutString
import Derived.ChangeOld
import Derived.LaidMore
import Derived.Stop.Joined
import Derived.MakeChecks
import Derived.Lib.LaidTab
namespace Go.Proofs.YtoljflkfhdaipaaDoor
open Go.ChangeShapes Go.WideShapes Go.ChangeAt Go.RowKit Go.Shelf

theorem gPrimes : Tryd.prog.globalNamed "palisade/mod.primes" = some 0 := by kernel_rfl
theorem tPrimes : (Tryd.prog.globals[0]?).map (·.type) = some 45 := by kernel_rfl
def laidL : List (String × DataW Unit) := [("palisade/mod.primes", Rows.laid_palisade_mod_primes)]
theorem door_met (os : Os) (args : Array Value) : laidMetH Tryd.prog laidL ((World.doorLaid Tryd.prog 200 os).forCall (fun _ _ => 0) ⟨#[], args, []⟩).memory :=
  laidMetH_of_parts3 (fuel := 8) (laidMet_of_run' 8 (by kernel_rfl) (by kernel_rfl)) (by kernel_rfl) (by kernel_rfl)
theorem laid_of {W : World} (h : laidMetH Tryd.prog laidL W) : Laid W := by
  rw [MakeChecks.laidMetH_plain _ _ _ (by kernel_rfl)] at h
  obtain ⟨ps, ⟨g0, t0, cs0, f0, p0, q0, hg0, ht0, hv0, hd0, _, _⟩, _, _⟩ := h
  obtain rfl := Option.some.inj (gPrimes.symm.trans hg0)
  obtain rfl := Option.some.inj (tPrimes.symm.trans ht0)
  have hc := Lib.cells_of_tab Tryd.underlying45 Tryd.underlying3 (by kernel_rfl) (by kernel_rfl) (k := .i64) (zs := prm) hd0
  obtain ⟨l0⟩ := cs0
  have hc' : l0 = prm.map fun z => Value.int .i64 z := hc
  subst hc'
  unfold World.var? at hv0
  rw [gPrimes, Option.bind_some] at hv0
  split at hv0
  · rename_i cs t fr hh
    injection hv0 with hv0
    subst hv0
    exact ⟨t, fr, hh⟩
  · cases hv0
theorem wf_i64 {n : Int} (h : (Lit.int .i64 n).wf = true) : -9223372036854775808 ≤ n ∧ n ≤ 9223372036854775807 := by
  have := bounds_i64 h
  omega
theorem works_in {w : World} (V : World) (hL : Laid V) (hB : Below w.heap.size w V) : Calls Tryd.prog 20 #[] V fun e w' => e = .returned (.bool true) ∧ Below w.heap.size w w' := by
  refine (works_any V hL).mono ?_
  rintro e w' ⟨rfl, hB'⟩
  exact ⟨rfl, below_in hB hB'⟩
end Go.Proofs.YtoljflkfhdaipaaDoor
